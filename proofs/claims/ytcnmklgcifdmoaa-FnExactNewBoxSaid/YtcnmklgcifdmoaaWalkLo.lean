/-
  laws.szLoaded, laws.toLoaded, laws.eqLoaded and laws.markLoaded of any report; conditions: those in each head.
-/
import Derived.Test.YtcnmklgcifdmoaaWalkOwnR
import Derived.Test.YtcnmklgcifdmoaaWalkBox
namespace Go.Proofs.Ytcnmklgcifdmoaa
open Go.RowKit Go.Sort
set_option linter.unusedVariables false
set_option linter.unusedSimpArgs false
/-- a loaded thing's cells -/
def ldV (m : Value) (E H T S : Int) (a b c : Value) (n : Int) : Array Value := #[m, .int .i64 E, .int .i64 H, .int .i64 T, .int .i64 S, a, b, c, .int .i64 n]
theorem ldV_size (m : Value) (E H T S : Int) (a b c : Value) (n : Int) : (ldV m E H T S a b c n).size = 9 := rfl
theorem ldV_one (p q r s : Option Addr) (i j k x : Nat) (i' j' k' x' : Nat) (E H T S n : Int) : (ldV (.slice p i i') E H T S (.slice q j j') (.slice r k k') (.slice s x x') n).all (·.oneCell') = true := by simp [ldV, Value.oneCell']
theorem rep_range {W : World} {g : Nat} {m : Value} {E H T S : Int} {a b c : Value} {n : Int} {t : TypeId} (h : W.heap[g]? = some (.cells (ldV m E H T S a b c n) t (0, 0))) : W.rangeAt g 5 [a, b, c, .int .i64 n] := by
  have e := World.rangeAt_of_block h 5 4
  rw [show ((ldV m E H T S a b c n).extract 5 (5 + 4)).toList = [a, b, c, .int .i64 n] by kernel_rfl] at e
  exact e
theorem rep_there {W : World} {g : Nat} {V : Array Value} {t : TypeId} (h : W.heap[g]? = some (.cells V t (0, 0))) (hV : V.size = 9) : W.there g 5 4 := fun j hj => by
  refine ⟨?_, by simp [World.frozen?, h]⟩
  rw [cell_of_row _ g (5 + j) _ _ _ h]
  simp [hV]; omega

set_option maxHeartbeats 1000000 in
theorem szRepG (q0 q1 q2 : Option Addr) (n0 n1 n2 c0 c1 c2 : Nat) (n left : Int) (w : World) (m0 : n0 ≤ maxLen) (m1 : n1 ≤ maxLen) (m2 : n2 ≤ maxLen) (h0 : 0 ≤ left) (h1 : left ≤ 1048576) :
    Calls Try.prog 27 #[.agg #[.slice q0 n0 c0, .slice q1 n1 c1, .slice q2 n2 c2, .int .i64 n], .int .i64 left] w fun e w' => ∃ r : Int, e = .returned (.int .i64 r) ∧ Hid (-1 ≤ r ∧ r ≤ left ∧ (0 ≤ r → n0 + n1 + n2 ≤ 1048576)) ∧ Below w.heap.size w w' := by
  have mm : maxLen = 9223372036854775807 := by decide
  rw [mm] at m0 m1 m2
  by_cases k0 : (n0 : Int) ≤ left
  rotate_left
  · have C0 := Lib.hid (fun w => szIntsNo q0 n0 c0 left w (by omega) h0 h1 (by omega))
    clear k0 m0 m1 m2
    go_enter Try.func27, Try.ntmps27
    go_wp2_with fail
    refine (C0.out _).mono ?_
    rintro e w1 ⟨rfl, rfl⟩
    go_wp2
    go_ret
    exact ⟨_, rfl, Lib.hid ⟨by omega, by omega, fun h => absurd h (by omega)⟩, (Below.refl _ _).alloc (Nat.le_refl _) _⟩
  have C0 := Lib.hid (fun w => szIntsYes q0 n0 c0 left w k0 h1)
  have d0 : decide (left - (n0 : Int) < 0) = false := decide_eq_false (by omega)
  have e0 : decide (left < (n0 : Int)) = false := decide_eq_false (by omega)
  obtain ⟨l1, hl1⟩ : ∃ l1 : Int, l1 = left - n0 := ⟨_, rfl⟩
  have b1 : 0 ≤ l1 := by omega
  have b2 : l1 ≤ 1048576 := by omega
  by_cases k1 : (n1 : Int) ≤ l1
  rotate_left
  · have C1 := Lib.hid (fun w => szIntsNo q1 n1 c1 l1 w (by omega) b1 b2 (by omega))
    rw [← hl1] at C0 d0
    clear k0 k1 m0 m1 m2 e0 hl1
    go_enter Try.func27, Try.ntmps27
    go_wp2_with fail
    refine (C0.out _).mono ?_
    rintro e w1 ⟨rfl, rfl⟩
    go_wp2_with fail
    refine (C1.out _).mono ?_
    rintro e w1 ⟨rfl, rfl⟩
    go_wp2
    go_ret
    exact ⟨_, rfl, Lib.hid ⟨by omega, by omega, fun h => absurd h (by omega)⟩, (Below.refl _ _).alloc (Nat.le_refl _) _⟩
  have C1 := Lib.hid (fun w => szIntsYes q1 n1 c1 l1 w k1 b2)
  have d1 : decide (l1 - (n1 : Int) < 0) = false := decide_eq_false (by omega)
  obtain ⟨l2, hl2⟩ : ∃ l2 : Int, l2 = l1 - n1 := ⟨_, rfl⟩
  have b3 : 0 ≤ l2 := by omega
  have b4 : l2 ≤ 1048576 := by omega
  by_cases k2 : (n2 : Int) ≤ l2
  rotate_left
  · have C2 := Lib.hid (fun w => szIntsNo q2 n2 c2 l2 w (by omega) b3 b4 (by omega))
    rw [← hl1] at C0 d0
    rw [← hl2] at C1 d1
    clear k0 k1 k2 m0 m1 m2 e0 hl1 hl2
    go_enter Try.func27, Try.ntmps27
    go_wp2_with fail
    refine (C0.out _).mono ?_
    rintro e w1 ⟨rfl, rfl⟩
    go_wp2_with fail
    refine (C1.out _).mono ?_
    rintro e w1 ⟨rfl, rfl⟩
    go_wp2_with fail
    refine (C2.out _).mono ?_
    rintro e w1 ⟨rfl, rfl⟩
    go_wp2
    go_ret
    exact ⟨_, rfl, Lib.hid ⟨by omega, by omega, fun h => absurd h (by omega)⟩, (Below.refl _ _).alloc (Nat.le_refl _) _⟩
  have C2 := Lib.hid (fun w => szIntsYes q2 n2 c2 l2 w k2 b4)
  have d2 : decide (l2 - (n2 : Int) < 0) = false := decide_eq_false (by omega)
  have HF : Hid (-1 ≤ l2 - (n2 : Int) ∧ l2 - (n2 : Int) ≤ left ∧ (0 ≤ l2 - (n2 : Int) → n0 + n1 + n2 ≤ 1048576)) := Lib.hid ⟨by omega, by omega, fun _ => by omega⟩
  rw [← hl1] at C0 d0
  rw [← hl2] at C1 d1
  clear k0 k1 k2 m0 m1 m2 e0 hl1 hl2
  go_enter Try.func27, Try.ntmps27
  go_wp2_with fail
  refine (C0.out _).mono ?_
  rintro e w1 ⟨rfl, rfl⟩
  go_wp2_with fail
  refine (C1.out _).mono ?_
  rintro e w1 ⟨rfl, rfl⟩
  go_wp2_with fail
  refine (C2.out _).mono ?_
  rintro e w1 ⟨rfl, rfl⟩
  go_wp2
  go_ret
  exact ⟨_, rfl, HF, (Below.refl _ _).alloc (Nat.le_refl _) _⟩
set_option maxRecDepth 100000 in
set_option maxHeartbeats 2000000 in
theorem szLoC (p : Option Addr) (cap : Nat) (l : List Pg) (E H T S : Int) (q0 q1 q2 : Option Addr) (L0 L1 L2 : List Int) (p0 p1 p2 : Nat) (n : Int) (w : World) (hr : Rd w p l) (hd : Fits l) (m0 : L0.length ≤ maxLen) (m1 : L1.length ≤ maxLen) (m2 : L2.length ≤ maxLen) :
    Calls Try.prog 7 #[.agg (ldV (.slice p l.length cap) E H T S (.slice q0 L0.length p0) (.slice q1 L1.length p1) (.slice q2 L2.length p2) n), .int .i64 1048576] w fun e w' => ∃ r : Int, e = .returned (.int .i64 r) ∧ Hid (-1 ≤ r ∧ r ≤ 1048576 ∧ (0 ≤ r → Small l ∧ L0.length + L1.length + L2.length ≤ 1048576)) ∧ Below w.heap.size w w' := by
  have n1 := heap_alloc_new w (.cells (ldV (.slice p l.length cap) E H T S (.slice q0 L0.length p0) (.slice q1 L1.length p1) (.slice q2 L2.length p2) n) 29)
  have L0' : Below w.heap.size w (w.alloc (.cells (ldV (.slice p l.length cap) E H T S (.slice q0 L0.length p0) (.slice q1 L1.length p1) (.slice q2 L2.length p2) n) 29)) := (Below.refl _ _).alloc (Nat.le_refl _) _
  have C := Lib.hid (szMemoryC p cap l 1048576 _ (hr.below L0') hd (by omega) (by omega))
  have a0 := (cell_of_row _ _ 0 _ _ _ n1).trans (show (ldV (.slice p l.length cap) E H T S (.slice q0 L0.length p0) (.slice q1 L1.length p1) (.slice q2 L2.length p2) n)[0]? = some (.slice p l.length cap) from rfl)
  have R := Lib.hid (rep_range n1)
  have LL := Lib.hid L0'
  have N1 := Lib.hid n1
  clear hr n1 L0'
  generalize hV : ldV (.slice p l.length cap) E H T S (.slice q0 L0.length p0) (.slice q1 L1.length p1) (.slice q2 L2.length p2) n = V at *
  have HV := Lib.hid hV
  clear hV
  go_enter Try.func7, Try.ntmps7
  go_wp2_with fail
  refine (C.out).mono ?_
  rintro e w1 ⟨r, rfl, HQ, b1⟩
  have L1x := Lib.hid (bthen LL.out b1)
  have R1 := Lib.hid (rep_range (HV.out ▸ ((b1.block _ (lt_of_blk' N1.out)).trans N1.out)))
  clear b1 a0 C R LL N1
  by_cases r0 : r < 0
  · have HQ' := HQ.out
    go_wp2
    go_ret
    exact ⟨_, rfl, Lib.hid ⟨by omega, by omega, fun h => absurd h (by omega)⟩, L1x.out⟩
  have hd0 : decide (r < 0) = false := decide_eq_false r0
  have C2 := Lib.hid (fun w => szRepG q0 q1 q2 L0.length L1.length L2.length p0 p1 p2 n r w m0 m1 m2 (by omega) HQ.out.2.1)
  have HS := Lib.hid (HQ.out.2.2 (by omega))
  have HQ1 := Lib.hid HQ.out.2.1
  clear r0 HQ
  go_wp2_with (refine wpList_load_mid rfl 27 (.tmp 11) rfl w.heap.size 5 rfl [.slice q0 L0.length p0, .slice q1 L1.length p1, .slice q2 L2.length p2, .int .i64 n] _ R1.out Try.underlying27 rfl (by kernel_rfl) ?_)
  refine (C2.out _).mono ?_
  rintro e w2 ⟨r2, rfl, HQ, b2⟩
  have L2x := Lib.hid (bthen L1x.out b2)
  have HQ2 := HQ.out
  have hq3 := Lib.hid HQ2.2.2
  have hq4 := Lib.hid HQ2.1
  have hq5 : Hid (r2 ≤ 1048576) := Lib.hid (by have := HQ1.out; omega)
  clear b2 C2 R1 HQ HQ2
  by_cases r0 : r2 < 0
  · go_wp2
    go_ret
    exact ⟨_, rfl, Lib.hid ⟨by omega, by omega, fun h => absurd h (by omega)⟩, L2x.out⟩
  go_wp2
  go_ret
  exact ⟨_, rfl, Lib.hid ⟨hq4.out, hq5.out, fun h => ⟨HS.out, hq3.out h⟩⟩, L2x.out⟩
/-- within toLoaded -/
structure TLo (w W : World) (A Y : Array Value) : Prop where
  a : W.heap[w.heap.size]? = some (.cells A 29 (0, 0))
  r : W.heap[w.heap.size + 1]? = some (.cells #[.slice none 0 0, .int .i64 0, .int .i64 0, .int .i64 0, .int .i64 0, .slice none 0 0, .slice none 0 0, .slice none 0 0, .int .i64 0] 43 (0, 0))
  o : W.heap[w.heap.size + 1 + 1]? = some (.cells Y 43 (0, 0))
  be : Below w.heap.size w W
theorem TLo.new (w : World) (A : Array Value) : TLo w (((w.alloc (.cells A 29)).alloc (.cells #[.slice none 0 0, .int .i64 0, .int .i64 0, .int .i64 0, .int .i64 0, .slice none 0 0, .slice none 0 0, .slice none 0 0, .int .i64 0] 43)).alloc (.cells #[.slice none 0 0, .int .i64 0, .int .i64 0, .int .i64 0, .int .i64 0, .slice none 0 0, .slice none 0 0, .slice none 0 0, .int .i64 0] 43)) A #[.slice none 0 0, .int .i64 0, .int .i64 0, .int .i64 0, .int .i64 0, .slice none 0 0, .slice none 0 0, .slice none 0 0, .int .i64 0] := by
  have e1 := heap_alloc_new w (.cells A 29)
  have e2 := heap_alloc_new (w.alloc (.cells A 29)) (.cells #[.slice none 0 0, .int .i64 0, .int .i64 0, .int .i64 0, .int .i64 0, .slice none 0 0, .slice none 0 0, .slice none 0 0, .int .i64 0] 43)
  have e3 := heap_alloc_new ((w.alloc (.cells A 29)).alloc (.cells #[.slice none 0 0, .int .i64 0, .int .i64 0, .int .i64 0, .int .i64 0, .slice none 0 0, .slice none 0 0, .slice none 0 0, .int .i64 0] 43)) (.cells #[.slice none 0 0, .int .i64 0, .int .i64 0, .int .i64 0, .int .i64 0, .slice none 0 0, .slice none 0 0, .slice none 0 0, .int .i64 0] 43)
  have z2 : (w.alloc (.cells A 29)).heap.size = w.heap.size + 1 := by simp
  have z3 : ((w.alloc (.cells A 29)).alloc (.cells #[.slice none 0 0, .int .i64 0, .int .i64 0, .int .i64 0, .int .i64 0, .slice none 0 0, .slice none 0 0, .slice none 0 0, .int .i64 0] 43)).heap.size = w.heap.size + 1 + 1 := by simp
  rw [z2] at e2; rw [z3] at e3
  exact ⟨(Below.heap_alloc _ _ _ (by simp; omega)).trans ((Below.heap_alloc _ _ _ (by simp)).trans e1), (Below.heap_alloc _ _ _ (by simp)).trans e2, e3, (((Below.refl _ _).alloc (Nat.le_refl _) _).alloc (by simp) _).alloc (by simp; omega) _⟩
theorem TLo.call {w W W' : World} {A Y : Array Value} (h : TLo w W A Y) (hb : Below W.heap.size W W') : TLo w W' A Y :=
  ⟨(hb.block _ (lt_of_blk' h.a)).trans h.a, (hb.block _ (lt_of_blk' h.r)).trans h.r, (hb.block _ (lt_of_blk' h.o)).trans h.o, h.be.trans (hb.mono h.be.size)⟩
theorem TLo.set {w W : World} {A Y Y' : Array Value} (h : TLo w W A Y) (i : Nat) (v : Value) (e : Y.setIfInBounds i v = Y') : TLo w (W.setCell ⟨w.heap.size + 1 + 1, i, none⟩ v) A Y' :=
  ⟨(Below.heap_setCell _ _ _ _ (by simp; omega)).trans h.a, (Below.heap_setCell _ _ _ _ (by simp)).trans h.r, row_set h.o i _ e, h.be.setCell (by simp; omega) _⟩
theorem TLo.sets {w W : World} {A Y Y' : Array Value} (h : TLo w W A Y) (i : Nat) (vs : List Value) (e : setMany Y i vs = Y') : TLo w (W.setCells (w.heap.size + 1 + 1) i vs) A Y' :=
  ⟨(setCells_far _ _ (by omega) _ _ _).trans h.a, (setCells_far _ _ (by omega) _ _ _).trans h.r, e ▸ (setCells_row _ _ _ _ _ _ h.o), setCells_be h.be (by omega) _ _⟩
theorem Owns.kept2 {W W' : World} {B : Nat} {p : Option Addr} {cap : Nat} {l : List Pg} (h : Owns W B p cap l) (hb : ∀ g, p = some ⟨g, 0, none⟩ → W'.heap[g]? = W.heap[g]?) : Owns W' B p cap l := by
  refine ⟨h.1, ?_⟩
  rcases h.2 with h' | ⟨g', c, cur, e1, e2, e3, e4⟩
  · exact .inl h'
  · cases e1
    exact .inr ⟨_, _, cur, rfl, e2, (hb _ rfl).trans e3, e4⟩
/-- what is answered of a loaded thing's copy -/
def LoOw (l : List Pg) (E H T S : Int) (L0 L1 L2 : List Int) (n : Int) (w : World) (e : Ending) (w' : World) : Prop :=
  ∃ g a0 a1 a2 : Nat, e = .returned (.agg (ldV (.slice (some ⟨g, 0, none⟩) l.length l.length) E H T S (.slice (some ⟨a0, 0, none⟩) L0.length L0.length) (.slice (some ⟨a1, 0, none⟩) L1.length L1.length) (.slice (some ⟨a2, 0, none⟩) L2.length L2.length) n)) ∧ Owns w' w.heap.size (some ⟨g, 0, none⟩) l.length l ∧ OwZ w.heap.size w' a0 L0 ∧ OwZ w.heap.size w' a1 L1 ∧ OwZ w.heap.size w' a2 L2 ∧ w.heap.size ≤ g ∧ g < a0 ∧ a0 < a1 ∧ a1 < a2 ∧ a2 < w'.heap.size ∧ Below w.heap.size w w'
set_option maxRecDepth 100000 in
set_option maxHeartbeats 4000000 in
theorem toLoC (p : Option Addr) (cap : Nat) (l : List Pg) (E H T S : Int) (q0 q1 q2 : Option Addr) (L0 L1 L2 : List Int) (p0 p1 p2 : Nat) (n : Int) (w : World) (hr : Rd w p l) (hs : Small l) (r0 : RdA w q0 L0) (r1 : RdA w q1 L1) (r2 : RdA w q2 L2) (hn : L0.length + L1.length + L2.length ≤ 1048576) :
    Calls Try.prog 9 #[.agg (ldV (.slice p l.length cap) E H T S (.slice q0 L0.length p0) (.slice q1 L1.length p1) (.slice q2 L2.length p2) n)] w (LoOw l E H T S L0 L1 L2 n w) := by
  have T0 := Lib.hid (TLo.new w (ldV (.slice p l.length cap) E H T S (.slice q0 L0.length p0) (.slice q1 L1.length p1) (.slice q2 L2.length p2) n))
  have a0 := (cell_of_row _ _ 0 _ _ _ T0.out.a).trans (show (ldV (.slice p l.length cap) E H T S (.slice q0 L0.length p0) (.slice q1 L1.length p1) (.slice q2 L2.length p2) n)[0]? = some (.slice p l.length cap) from rfl)
  have HR := Lib.hid (hr.below T0.out.be); have HS := Lib.hid hs
  have R0 := Lib.hid r0; have R1 := Lib.hid r1; have R2 := Lib.hid r2; have HN := Lib.hid hn
  clear hr hs r0 r1 r2 hn
  generalize hV : ldV (.slice p l.length cap) E H T S (.slice q0 L0.length p0) (.slice q1 L1.length p1) (.slice q2 L2.length p2) n = V at *
  have HV := Lib.hid hV
  clear hV
  go_enter Try.func9, Try.ntmps9
  go_wp2_with fail
  refine (toMemoryC p cap l _ HR.out HS.out).mono ?_
  rintro e w1 ⟨g, hg, rfl, hown, hb⟩
  have hz0 := T0.out.be.size
  have hlt0 := lt_of_blk' T0.out.o
  have T1 := Lib.hid (T0.out.call hb)
  have O1 : Hid (Owns w1 w.heap.size (some ⟨g, 0, none⟩) l.length l) := Lib.hid (Joins.ownsRow_le hown (by omega))
  have hglt : g < w1.heap.size := (hown.lt g rfl).2
  have HG : Hid (w.heap.size + 2 < g ∧ g < w1.heap.size) := Lib.hid ⟨by omega, hglt⟩
  clear hb hown hg hz0 hlt0 a0 HR T0 hglt
  have o0 := (cell_of_row _ _ 0 _ _ _ T1.out.o).trans (show (#[.slice none 0 0, .int .i64 0, .int .i64 0, .int .i64 0, .int .i64 0, .slice none 0 0, .slice none 0 0, .slice none 0 0, .int .i64 0] : Array Value)[0]? = some (.slice none 0 0) from rfl)
  have fz : w1.frozen? ⟨w.heap.size + 1 + 1, 0, none⟩ = false := by simp [World.frozen?, T1.out.o]
  go_upto_region 3 with fail
  have U0 : Hid (TLo w (w1.setCell ⟨w.heap.size + 1 + 1, 0, none⟩ (.slice (some ⟨g, 0, none⟩) l.length l.length)) V #[.slice (some ⟨g, 0, none⟩) l.length l.length, .int .i64 0, .int .i64 0, .int .i64 0, .int .i64 0, .slice none 0 0, .slice none 0 0, .slice none 0 0, .int .i64 0]) := Lib.hid (T1.out.set 0 _ rfl)
  have P0 : Hid (Owns (w1.setCell ⟨w.heap.size + 1 + 1, 0, none⟩ (.slice (some ⟨g, 0, none⟩) l.length l.length)) w.heap.size (some ⟨g, 0, none⟩) l.length l) := Lib.hid (O1.out.kept2 (fun j e => by cases e; exact Below.heap_setCell _ _ _ _ (by have := HG.out; simp; omega)))
  have HG0 : Hid (w.heap.size + 2 < g ∧ g < (w1.setCell ⟨w.heap.size + 1 + 1, 0, none⟩ (.slice (some ⟨g, 0, none⟩) l.length l.length)).heap.size) := Lib.hid (by have := HG.out; simpa using this)
  clear o0 fz T1 O1 HG
  generalize w1.setCell ⟨w.heap.size + 1 + 1, 0, none⟩ (.slice (some ⟨g, 0, none⟩) l.length l.length) = X0 at *
  have ca := (cell_of_row _ _ 1 _ _ _ U0.out.a).trans (show V[1]? = some (.int .i64 E) by rw [← HV.out]; rfl)
  have co := (cell_of_row _ _ 1 _ _ _ U0.out.o).trans (show (#[.slice (some ⟨g, 0, none⟩) l.length l.length, .int .i64 0, .int .i64 0, .int .i64 0, .int .i64 0, .slice none 0 0, .slice none 0 0, .slice none 0 0, .int .i64 0] : Array Value)[1]? = some (.int .i64 0) from rfl)
  have fz : X0.frozen? ⟨w.heap.size + 1 + 1, 1, none⟩ = false := by simp [World.frozen?, U0.out.o]
  go_upto_region 4 with fail
  have U1 : Hid (TLo w (X0.setCell ⟨w.heap.size + 1 + 1, 1, none⟩ (.int .i64 E)) V #[.slice (some ⟨g, 0, none⟩) l.length l.length, .int .i64 E, .int .i64 0, .int .i64 0, .int .i64 0, .slice none 0 0, .slice none 0 0, .slice none 0 0, .int .i64 0]) := Lib.hid (U0.out.set 1 _ rfl)
  have P1 : Hid (Owns (X0.setCell ⟨w.heap.size + 1 + 1, 1, none⟩ (.int .i64 E)) w.heap.size (some ⟨g, 0, none⟩) l.length l) := Lib.hid (P0.out.kept2 (fun j e => by cases e; exact Below.heap_setCell _ _ _ _ (by have := HG0.out; simp; omega)))
  have HG1 : Hid (w.heap.size + 2 < g ∧ g < (X0.setCell ⟨w.heap.size + 1 + 1, 1, none⟩ (.int .i64 E)).heap.size) := Lib.hid (by have := HG0.out; simpa using this)
  clear ca co fz U0 P0 HG0
  generalize X0.setCell ⟨w.heap.size + 1 + 1, 1, none⟩ (.int .i64 E) = X1 at *
  have ca := (cell_of_row _ _ 2 _ _ _ U1.out.a).trans (show V[2]? = some (.int .i64 H) by rw [← HV.out]; rfl)
  have co := (cell_of_row _ _ 2 _ _ _ U1.out.o).trans (show (#[.slice (some ⟨g, 0, none⟩) l.length l.length, .int .i64 E, .int .i64 0, .int .i64 0, .int .i64 0, .slice none 0 0, .slice none 0 0, .slice none 0 0, .int .i64 0] : Array Value)[2]? = some (.int .i64 0) from rfl)
  have fz : X1.frozen? ⟨w.heap.size + 1 + 1, 2, none⟩ = false := by simp [World.frozen?, U1.out.o]
  go_upto_region 5 with fail
  have U2 : Hid (TLo w (X1.setCell ⟨w.heap.size + 1 + 1, 2, none⟩ (.int .i64 H)) V #[.slice (some ⟨g, 0, none⟩) l.length l.length, .int .i64 E, .int .i64 H, .int .i64 0, .int .i64 0, .slice none 0 0, .slice none 0 0, .slice none 0 0, .int .i64 0]) := Lib.hid (U1.out.set 2 _ rfl)
  have P2 : Hid (Owns (X1.setCell ⟨w.heap.size + 1 + 1, 2, none⟩ (.int .i64 H)) w.heap.size (some ⟨g, 0, none⟩) l.length l) := Lib.hid (P1.out.kept2 (fun j e => by cases e; exact Below.heap_setCell _ _ _ _ (by have := HG1.out; simp; omega)))
  have HG2 : Hid (w.heap.size + 2 < g ∧ g < (X1.setCell ⟨w.heap.size + 1 + 1, 2, none⟩ (.int .i64 H)).heap.size) := Lib.hid (by have := HG1.out; simpa using this)
  clear ca co fz U1 P1 HG1
  generalize X1.setCell ⟨w.heap.size + 1 + 1, 2, none⟩ (.int .i64 H) = X2 at *
  have ca := (cell_of_row _ _ 3 _ _ _ U2.out.a).trans (show V[3]? = some (.int .i64 T) by rw [← HV.out]; rfl)
  have co := (cell_of_row _ _ 3 _ _ _ U2.out.o).trans (show (#[.slice (some ⟨g, 0, none⟩) l.length l.length, .int .i64 E, .int .i64 H, .int .i64 0, .int .i64 0, .slice none 0 0, .slice none 0 0, .slice none 0 0, .int .i64 0] : Array Value)[3]? = some (.int .i64 0) from rfl)
  have fz : X2.frozen? ⟨w.heap.size + 1 + 1, 3, none⟩ = false := by simp [World.frozen?, U2.out.o]
  go_upto_region 6 with fail
  have U3 : Hid (TLo w (X2.setCell ⟨w.heap.size + 1 + 1, 3, none⟩ (.int .i64 T)) V #[.slice (some ⟨g, 0, none⟩) l.length l.length, .int .i64 E, .int .i64 H, .int .i64 T, .int .i64 0, .slice none 0 0, .slice none 0 0, .slice none 0 0, .int .i64 0]) := Lib.hid (U2.out.set 3 _ rfl)
  have P3 : Hid (Owns (X2.setCell ⟨w.heap.size + 1 + 1, 3, none⟩ (.int .i64 T)) w.heap.size (some ⟨g, 0, none⟩) l.length l) := Lib.hid (P2.out.kept2 (fun j e => by cases e; exact Below.heap_setCell _ _ _ _ (by have := HG2.out; simp; omega)))
  have HG3 : Hid (w.heap.size + 2 < g ∧ g < (X2.setCell ⟨w.heap.size + 1 + 1, 3, none⟩ (.int .i64 T)).heap.size) := Lib.hid (by have := HG2.out; simpa using this)
  clear ca co fz U2 P2 HG2
  generalize X2.setCell ⟨w.heap.size + 1 + 1, 3, none⟩ (.int .i64 T) = X3 at *
  have ca := (cell_of_row _ _ 4 _ _ _ U3.out.a).trans (show V[4]? = some (.int .i64 S) by rw [← HV.out]; rfl)
  have co := (cell_of_row _ _ 4 _ _ _ U3.out.o).trans (show (#[.slice (some ⟨g, 0, none⟩) l.length l.length, .int .i64 E, .int .i64 H, .int .i64 T, .int .i64 0, .slice none 0 0, .slice none 0 0, .slice none 0 0, .int .i64 0] : Array Value)[4]? = some (.int .i64 0) from rfl)
  have fz : X3.frozen? ⟨w.heap.size + 1 + 1, 4, none⟩ = false := by simp [World.frozen?, U3.out.o]
  go_upto_region 7 with fail
  have U4 : Hid (TLo w (X3.setCell ⟨w.heap.size + 1 + 1, 4, none⟩ (.int .i64 S)) V #[.slice (some ⟨g, 0, none⟩) l.length l.length, .int .i64 E, .int .i64 H, .int .i64 T, .int .i64 S, .slice none 0 0, .slice none 0 0, .slice none 0 0, .int .i64 0]) := Lib.hid (U3.out.set 4 _ rfl)
  have P4 : Hid (Owns (X3.setCell ⟨w.heap.size + 1 + 1, 4, none⟩ (.int .i64 S)) w.heap.size (some ⟨g, 0, none⟩) l.length l) := Lib.hid (P3.out.kept2 (fun j e => by cases e; exact Below.heap_setCell _ _ _ _ (by have := HG3.out; simp; omega)))
  have HG4 : Hid (w.heap.size + 2 < g ∧ g < (X3.setCell ⟨w.heap.size + 1 + 1, 4, none⟩ (.int .i64 S)).heap.size) := Lib.hid (by have := HG3.out; simpa using this)
  clear ca co fz U3 P3 HG3
  generalize X3.setCell ⟨w.heap.size + 1 + 1, 4, none⟩ (.int .i64 S) = X4 at *
  have RG := Lib.hid (rep_range (HV.out ▸ U4.out.a))
  have Q0 := Lib.hid (R0.out.below U4.out.be); have Q1 := Lib.hid (R1.out.below U4.out.be); have Q2 := Lib.hid (R2.out.below U4.out.be)
  go_wp2_with (refine wpList_load_mid rfl 27 (.tmp 20) rfl w.heap.size 5 rfl [.slice q0 L0.length p0, .slice q1 L1.length p1, .slice q2 L2.length p2, .int .i64 n] _ RG.out Try.underlying27 rfl (by kernel_rfl) ?_)
  refine (toRepW q0 q1 q2 L0 L1 L2 p0 p1 p2 n X4 Q0.out Q1.out Q2.out HN.out).mono ?_
  rintro e w2 ⟨a0, a1, a2, rfl, z0, z1, z2, h0, h01, h12, h2, b2⟩
  have hz4 := U4.out.be.size
  have hlt4 := lt_of_blk' U4.out.o
  have T5 := Lib.hid (U4.out.call b2)
  have O5 : Hid (Owns w2 w.heap.size (some ⟨g, 0, none⟩) l.length l) := Lib.hid (own_below P4.out b2)
  have Z0 := Lib.hid (z0.le hz4); have Z1 := Lib.hid (z1.le hz4); have Z2 := Lib.hid (z2.le hz4)
  have HO : Hid (w.heap.size + 2 < g ∧ g < a0 ∧ a0 < a1 ∧ a1 < a2 ∧ a2 < w2.heap.size) := Lib.hid ⟨HG4.out.1, Nat.lt_of_lt_of_le HG4.out.2 h0, h01, h12, h2⟩
  clear b2 z0 z1 z2 h0 h01 h12 h2 hz4 hlt4 RG Q0 Q1 Q2 U4 P4 HG4 HS HN R0 R1 R2
  have H1 := Lib.hid (rep_there T5.out.o rfl)
  have T6 : Hid (TLo w (w2.setCells (w.heap.size + 1 + 1) 5 [.slice (some ⟨a0, 0, none⟩) L0.length L0.length, .slice (some ⟨a1, 0, none⟩) L1.length L1.length, .slice (some ⟨a2, 0, none⟩) L2.length L2.length, .int .i64 n]) V (ldV (.slice (some ⟨g, 0, none⟩) l.length l.length) E H T S (.slice (some ⟨a0, 0, none⟩) L0.length L0.length) (.slice (some ⟨a1, 0, none⟩) L1.length L1.length) (.slice (some ⟨a2, 0, none⟩) L2.length L2.length) n)) := Lib.hid (T5.out.sets 5 _ (by kernel_rfl))
  have far (j : Nat) (hj : w.heap.size + 2 < j) : (w2.setCells (w.heap.size + 1 + 1) 5 [.slice (some ⟨a0, 0, none⟩) L0.length L0.length, .slice (some ⟨a1, 0, none⟩) L1.length L1.length, .slice (some ⟨a2, 0, none⟩) L2.length L2.length, .int .i64 n]).heap[j]? = w2.heap[j]? := setCells_far _ _ (by omega) _ _ _
  have O6 := Lib.hid (O5.out.kept2 (fun j e => by cases e; exact far g HO.out.1))
  have Z06 := Lib.hid (Z0.out.kept (far a0 (by have := HO.out; omega))); have Z16 := Lib.hid (Z1.out.kept (far a1 (by have := HO.out; omega))); have Z26 := Lib.hid (Z2.out.kept (far a2 (by have := HO.out; omega)))
  have HO6 : Hid (w.heap.size + 2 < g ∧ g < a0 ∧ a0 < a1 ∧ a1 < a2 ∧ a2 < (w2.setCells (w.heap.size + 1 + 1) 5 [.slice (some ⟨a0, 0, none⟩) L0.length L0.length, .slice (some ⟨a1, 0, none⟩) L1.length L1.length, .slice (some ⟨a2, 0, none⟩) L2.length L2.length, .int .i64 n]).heap.size) := Lib.hid (by
    have := Z26.out.lt.2
    exact ⟨HO.out.1, HO.out.2.1, HO.out.2.2.1, HO.out.2.2.2.1, this⟩)
  clear T5 O5 Z0 Z1 Z2 far HO
  go_upto_region 8 with ((refine wpList_store_mid rfl 41 (.tmp 23) (.tmp 22) rfl (w.heap.size + 1 + 1) 5 #[.slice (some ⟨a0, 0, none⟩) L0.length L0.length, .slice (some ⟨a1, 0, none⟩) L1.length L1.length, .slice (some ⟨a2, 0, none⟩) L2.length L2.length, .int .i64 n] rfl rfl H1.out (by kernel_rfl) (by simp [Value.oneCell']) ?_; generalize w2.setCells (w.heap.size + 1 + 1) 5 [.slice (some ⟨a0, 0, none⟩) L0.length L0.length, .slice (some ⟨a1, 0, none⟩) L1.length L1.length, .slice (some ⟨a2, 0, none⟩) L2.length L2.length, .int .i64 n] = X6 at *))
  have R5 := Lib.hid T6.out.o
  have Y5 := Lib.hid T6.out.r
  have B5 := Lib.hid T6.out.be
  have hO5 := Lib.hid (ldV_one (some ⟨g, 0, none⟩) (some ⟨a0, 0, none⟩) (some ⟨a1, 0, none⟩) (some ⟨a2, 0, none⟩) l.length L0.length L1.length L2.length l.length L0.length L1.length L2.length E H T S n)
  have sz := ldV_size (.slice (some ⟨g, 0, none⟩) l.length l.length) E H T S (.slice (some ⟨a0, 0, none⟩) L0.length L0.length) (.slice (some ⟨a1, 0, none⟩) L1.length L1.length) (.slice (some ⟨a2, 0, none⟩) L2.length L2.length) n
  clear T6 H1
  generalize hV2 : ldV (.slice (some ⟨g, 0, none⟩) l.length l.length) E H T S (.slice (some ⟨a0, 0, none⟩) L0.length L0.length) (.slice (some ⟨a1, 0, none⟩) L1.length L1.length) (.slice (some ⟨a2, 0, none⟩) L2.length L2.length) n = V2 at *
  have HV2 := Lib.hid hV2
  have SZ := Lib.hid sz
  clear sz hV2
  have Y6 := Lib.hid (setRow_heap _ _ _ V2 _ _ Y5.out)
  have D6 := Lib.hid (Go.below_setRow B5.out (by omega : w.heap.size ≤ w.heap.size + 1) V2)
  have far (j : Nat) (hj : w.heap.size + 2 < j) : (X6.setRow (w.heap.size + 1) V2).heap[j]? = X6.heap[j]? := setRow_far _ _ _ _ (by omega)
  have O7 := Lib.hid (O6.out.kept2 (fun j e => by cases e; exact far g HO6.out.1))
  have Z07 := Lib.hid (Z06.out.kept (far a0 (by have := HO6.out; omega))); have Z17 := Lib.hid (Z16.out.kept (far a1 (by have := HO6.out; omega))); have Z27 := Lib.hid (Z26.out.kept (far a2 (by have := HO6.out; omega)))
  clear far
  go_wp2_with (first | (refine wpList_load_row rfl 43 (.tmp 3) rfl (w.heap.size + 1 + 1) rfl 43 V2 (0, 0) _ R5.out Try.underlying43 rfl (by rw [SZ.out]; kernel_rfl) ?_) | (refine wpList_store_row rfl 43 (.tmp 2) (.tmp 24) rfl (w.heap.size + 1) V2 rfl rfl 43 _ Y5.out (by rw [SZ.out]; kernel_rfl) (by rw [SZ.out]; rfl) hO5.out ?_))
  refine bodyPost_ret (v := .agg V2) (by exact results_cell_row Try.results9 _ _ (w.heap.size + 1) 43 V2 (0, 0) _ rfl Y6.out Try.underlying43 rfl (by rw [SZ.out]; kernel_rfl)) (by rfl) ⟨g, a0, a1, a2, by rw [HV2.out], O7.out, Z07.out, Z17.out, Z27.out, by have := HO6.out; omega, HO6.out.2.1, HO6.out.2.2.1, HO6.out.2.2.2.1, Z27.out.lt.2, D6.out⟩
set_option maxRecDepth 100000 in
set_option maxHeartbeats 2000000 in
theorem eqLoC (p q : Option Addr) (c d : Nat) (l : List Pg) (E H T S : Int) (x0 x1 x2 y0 y1 y2 : Option Addr) (L0 L1 L2 : List Int) (p0 p1 p2 k0 k1 k2 : Nat) (n : Int) (w : World) (hn : l.length ≤ 9223372036854775807) (hr : Rd w p l) (hq : Rd w q l) (r0 : RdZ w x0 L0) (r1 : RdZ w x1 L1) (r2 : RdZ w x2 L2) (s0 : RdZ w y0 L0) (s1 : RdZ w y1 L1) (s2 : RdZ w y2 L2) (m0 : L0.length ≤ maxLen) (m1 : L1.length ≤ maxLen) (m2 : L2.length ≤ maxLen) :
    Calls Try.prog 12 #[.agg (ldV (.slice p l.length c) E H T S (.slice x0 L0.length p0) (.slice x1 L1.length p1) (.slice x2 L2.length p2) n), .agg (ldV (.slice q l.length d) E H T S (.slice y0 L0.length k0) (.slice y1 L1.length k1) (.slice y2 L2.length k2) n)] w fun e w' => e = .returned (.bool true) ∧ Below w.heap.size w w' := by
  obtain ⟨n1, n2, n3⟩ := two_new w (ldV (.slice p l.length c) E H T S (.slice x0 L0.length p0) (.slice x1 L1.length p1) (.slice x2 L2.length p2) n) (ldV (.slice q l.length d) E H T S (.slice y0 L0.length k0) (.slice y1 L1.length k1) (.slice y2 L2.length k2) n) 43
  have HR := Lib.hid (hr.below n3); have HQ := Lib.hid (hq.below n3)
  have A0 := Lib.hid (r0.below n3); have A1 := Lib.hid (r1.below n3); have A2 := Lib.hid (r2.below n3); have B0 := Lib.hid (s0.below n3); have B1 := Lib.hid (s1.below n3); have B2 := Lib.hid (s2.below n3)
  have M0 := Lib.hid m0; have M1 := Lib.hid m1; have M2 := Lib.hid m2
  have N1 := Lib.hid n1; have N2 := Lib.hid n2; have N3 := Lib.hid n3
  have a0 := (cell_of_row _ _ 0 _ _ _ n1).trans (show (ldV (.slice p l.length c) E H T S (.slice x0 L0.length p0) (.slice x1 L1.length p1) (.slice x2 L2.length p2) n)[0]? = some (.slice p l.length c) from rfl)
  have b0 := (cell_of_row _ _ 0 _ _ _ n2).trans (show (ldV (.slice q l.length d) E H T S (.slice y0 L0.length k0) (.slice y1 L1.length k1) (.slice y2 L2.length k2) n)[0]? = some (.slice q l.length d) from rfl)
  generalize hV1 : ldV (.slice p l.length c) E H T S (.slice x0 L0.length p0) (.slice x1 L1.length p1) (.slice x2 L2.length p2) n = V1 at *
  generalize hV2 : ldV (.slice q l.length d) E H T S (.slice y0 L0.length k0) (.slice y1 L1.length k1) (.slice y2 L2.length k2) n = V2 at *
  have HV1 := Lib.hid hV1; have HV2 := Lib.hid hV2
  clear n1 n2 n3 hr hq hV1 hV2 r0 r1 r2 s0 s1 s2 m0 m1 m2
  go_enter Try.func12, Try.ntmps12
  go_wp2_with fail
  refine (eqMemoryC p q c d l _ hn HR.out HQ.out).mono ?_
  rintro e w1 ⟨rfl, hb⟩
  have n1 := (hb.block _ (lt_of_blk' N1.out)).trans N1.out
  have n2 := (hb.block _ (lt_of_blk' N2.out)).trans N2.out
  have L1x := Lib.hid (N3.out.trans (hb.mono N3.out.size))
  have A0' := Lib.hid (A0.out.below hb); have A1' := Lib.hid (A1.out.below hb); have A2' := Lib.hid (A2.out.below hb); have B0' := Lib.hid (B0.out.below hb); have B1' := Lib.hid (B1.out.below hb); have B2' := Lib.hid (B2.out.below hb)
  have G1 := Lib.hid (rep_range (HV1.out ▸ n1)); have G2 := Lib.hid (rep_range (HV2.out ▸ n2))
  clear hb a0 b0 N1 N2 N3 HR HQ A0 A1 A2 B0 B1 B2
  have a1 := (cell_of_row _ _ 1 _ _ _ n1).trans (show V1[1]? = some (.int .i64 E) by rw [← HV1.out]; rfl)
  have b1 := (cell_of_row _ _ 1 _ _ _ n2).trans (show V2[1]? = some (.int .i64 E) by rw [← HV2.out]; rfl)
  have a2 := (cell_of_row _ _ 2 _ _ _ n1).trans (show V1[2]? = some (.int .i64 H) by rw [← HV1.out]; rfl)
  have b2 := (cell_of_row _ _ 2 _ _ _ n2).trans (show V2[2]? = some (.int .i64 H) by rw [← HV2.out]; rfl)
  have a3 := (cell_of_row _ _ 3 _ _ _ n1).trans (show V1[3]? = some (.int .i64 T) by rw [← HV1.out]; rfl)
  have b3 := (cell_of_row _ _ 3 _ _ _ n2).trans (show V2[3]? = some (.int .i64 T) by rw [← HV2.out]; rfl)
  have a4 := (cell_of_row _ _ 4 _ _ _ n1).trans (show V1[4]? = some (.int .i64 S) by rw [← HV1.out]; rfl)
  have b4 := (cell_of_row _ _ 4 _ _ _ n2).trans (show V2[4]? = some (.int .i64 S) by rw [← HV2.out]; rfl)
  clear n1 n2
  go_wp2_with (first | (refine wpList_load_mid rfl 41 (.tmp 31) rfl w.heap.size 5 rfl [.slice x0 L0.length p0, .slice x1 L1.length p1, .slice x2 L2.length p2, .int .i64 n] _ G1.out Try.underlying41 rfl (by kernel_rfl) ?_) | (refine wpList_load_mid rfl 41 (.tmp 33) rfl (w.heap.size + 1) 5 rfl [.slice y0 L0.length k0, .slice y1 L1.length k1, .slice y2 L2.length k2, .int .i64 n] _ G2.out Try.underlying41 rfl (by kernel_rfl) ?_))
  refine (eqRepC x0 x1 x2 y0 y1 y2 p0 p1 p2 k0 k1 k2 L0 L1 L2 n _ A0'.out A1'.out A2'.out B0'.out B1'.out B2'.out M0.out M1.out M2.out).mono ?_
  rintro e w2 ⟨rfl, hb⟩
  have L2x := Lib.hid (L1x.out.trans (hb.mono L1x.out.size))
  clear hb a1 a2 a3 a4 b1 b2 b3 b4
  go_wp2
  go_ret
  exact ⟨rfl, L2x.out⟩
set_option maxHeartbeats 2000000 in
theorem markRepG (a0 a1 a2 : Nat) (c0 c1 c2 : Nat) (L0 L1 L2 : List Int) (B K : Nat) (n : Int) (w : World) (z0 : OwZ B w a0 L0) (z1 : OwZ B w a1 L1) (z2 : OwZ B w a2 L2) (h01 : a0 < a1) (h12 : a1 < a2) (hn : L0.length + L1.length + L2.length ≤ 1048576) (hK : K ≤ 16777216) :
    Calls Try.prog 40 #[.agg #[.slice (some ⟨a0, 0, none⟩) L0.length c0, .slice (some ⟨a1, 0, none⟩) L1.length c1, .slice (some ⟨a2, 0, none⟩) L2.length c2, .int .i64 n], .int .i64 (K : Int)] w fun e w' => (∃ J : Nat, e = .returned (.int .i64 (J : Int))) ∧ Keep a0 (a2 + 1) w w' := by
  have C0 := Lib.hid (fun W hz => markIntsG a0 L0.length c0 K W hz (by omega) (by omega))
  have C1 := Lib.hid (fun W hz => markIntsG a1 L1.length c1 (K + L0.length) W hz (by omega) (by omega))
  have C2 := Lib.hid (fun W hz => markIntsG a2 L2.length c2 (K + L0.length + L1.length) W hz (by omega) (by omega))
  have n1 := heap_alloc_new w (.cells #[.slice (some ⟨a0, 0, none⟩) L0.length c0, .slice (some ⟨a1, 0, none⟩) L1.length c1, .slice (some ⟨a2, 0, none⟩) L2.length c2, .int .i64 n] 41)
  have b0 := below1 w (.cells #[.slice (some ⟨a0, 0, none⟩) L0.length c0, .slice (some ⟨a1, 0, none⟩) L1.length c1, .slice (some ⟨a2, 0, none⟩) L2.length c2, .int .i64 n] 41)
  have hsz : w.heap.size < (w.alloc (.cells #[.slice (some ⟨a0, 0, none⟩) L0.length c0, .slice (some ⟨a1, 0, none⟩) L1.length c1, .slice (some ⟨a2, 0, none⟩) L2.length c2, .int .i64 n] 41)).heap.size := by simp
  obtain ⟨W, hW⟩ : ∃ W, W = w.alloc (.cells #[.slice (some ⟨a0, 0, none⟩) L0.length c0, .slice (some ⟨a1, 0, none⟩) L1.length c1, .slice (some ⟨a2, 0, none⟩) L2.length c2, .int .i64 n] 41) := ⟨_, rfl⟩
  rw [← hW] at n1 b0 hsz
  have u0 := z0.lt.2; have u1 := z1.lt.2; have u2 := z2.lt.2
  have Z0 := Lib.hid (z0.below b0); have Z1 := Lib.hid (z1.below b0); have Z2 := Lib.hid (z2.below b0)
  have K0 : Hid (Keep a0 (a2 + 1) w W) := Lib.hid (Keep.of_below b0)
  have N1 := Lib.hid n1; have HW := Lib.hid hW; have H01 := Lib.hid h01; have H12 := Lib.hid h12; have HU : Hid (a2 < w.heap.size ∧ w.heap.size < W.heap.size) := Lib.hid ⟨u2, hsz⟩
  clear z0 z1 z2 n1 b0 hW h01 h12 hn u0 u1 u2 hsz
  go_enter Try.func40, Try.ntmps40
  go_wp2_with fail
  rw [← HW.out]
  refine (C0.out _ Z0.out.wz).mono ?_
  rintro e w1 ⟨rfl, g1, s1⟩
  have hu := HU.out; have h1 := H01.out; have h2 := H12.out
  have Y1 := Lib.hid (Z1.out.kept (g1.block a1 Z1.out.lt.2 (by simp; omega))); have Y2 := Lib.hid (Z2.out.kept (g1.block a2 Z2.out.lt.2 (by simp; omega)))
  have N2 := Lib.hid ((g1.block w.heap.size (by omega) (by simp; omega)).trans N1.out)
  have K1 := Lib.hid (K0.out.trans (Keep.of_grown g1 (Nat.le_refl _) (by omega)))
  have x1 := (cell_of_row _ _ 1 _ _ _ N2.out).trans (show _ = some (.slice (some ⟨a1, 0, none⟩) L1.length c1) from rfl)
  have HS1 : Hid (W.heap.size ≤ w1.heap.size) := Lib.hid (by omega)
  clear g1 s1 hu h1 h2 Z0 Z1 Z2 N1 K0 C0
  go_wp2_with fail
  refine (C1.out _ Y1.out.wz).mono ?_
  rintro e w2 ⟨rfl, g1, s1⟩
  have hu := HU.out; have h1 := H01.out; have h2 := H12.out; have hs := HS1.out
  have Y22 := Lib.hid (Y2.out.kept (g1.block a2 Y2.out.lt.2 (by simp; omega)))
  have N3 := Lib.hid ((g1.block w.heap.size (by omega) (by simp; omega)).trans N2.out)
  have K2 := Lib.hid (K1.out.trans (Keep.of_grown g1 (by omega) (by omega)))
  have x2 := (cell_of_row _ _ 2 _ _ _ N3.out).trans (show _ = some (.slice (some ⟨a2, 0, none⟩) L2.length c2) from rfl)
  clear g1 s1 hu h1 h2 hs Y1 Y2 N2 K1 x1 C1
  go_wp2_with fail
  refine (C2.out _ Y22.out.wz).mono ?_
  rintro e w3 ⟨rfl, g1, s1⟩
  have h1 := H01.out; have h2 := H12.out
  have K3 := Lib.hid (K2.out.trans (Keep.of_grown g1 (by omega) (by omega)))
  clear g1 s1 h1 h2 Y22 K2 x2 C2
  go_wp2
  go_ret
  exact ⟨⟨_, rfl⟩, K3.out⟩
set_option maxRecDepth 100000 in
set_option maxHeartbeats 2000000 in
theorem markLoC (g a0 a1 a2 B : Nat) (l : List Pg) (E H T S : Int) (L0 L1 L2 : List Int) (n : Int) (w : World) (hs : Small l) (ho : Owns w B (some ⟨g, 0, none⟩) l.length l) (z0 : OwZ B w a0 L0) (z1 : OwZ B w a1 L1) (z2 : OwZ B w a2 L2) (hg : g < a0) (h01 : a0 < a1) (h12 : a1 < a2) (hn : L0.length + L1.length + L2.length ≤ 1048576) :
    Calls Try.prog 13 #[.agg (ldV (.slice (some ⟨g, 0, none⟩) l.length l.length) E H T S (.slice (some ⟨a0, 0, none⟩) L0.length L0.length) (.slice (some ⟨a1, 0, none⟩) L1.length L1.length) (.slice (some ⟨a2, 0, none⟩) L2.length L2.length) n), .int .i64 1] w fun e w' => (∃ J : Nat, e = .returned (.int .i64 (J : Int))) ∧ Keep g (a2 + 1) w w' := by
  have n1 := heap_alloc_new w (.cells (ldV (.slice (some ⟨g, 0, none⟩) l.length l.length) E H T S (.slice (some ⟨a0, 0, none⟩) L0.length L0.length) (.slice (some ⟨a1, 0, none⟩) L1.length L1.length) (.slice (some ⟨a2, 0, none⟩) L2.length L2.length) n) 43)
  have b0 := below1 w (.cells (ldV (.slice (some ⟨g, 0, none⟩) l.length l.length) E H T S (.slice (some ⟨a0, 0, none⟩) L0.length L0.length) (.slice (some ⟨a1, 0, none⟩) L1.length L1.length) (.slice (some ⟨a2, 0, none⟩) L2.length L2.length) n) 43)
  have x0 := (cell_of_row _ _ 0 _ _ _ n1).trans (show (ldV (.slice (some ⟨g, 0, none⟩) l.length l.length) E H T S (.slice (some ⟨a0, 0, none⟩) L0.length L0.length) (.slice (some ⟨a1, 0, none⟩) L1.length L1.length) (.slice (some ⟨a2, 0, none⟩) L2.length L2.length) n)[0]? = some (.slice (some ⟨g, 0, none⟩) l.length l.length) from rfl)
  have hw2 := z2.lt.2
  have C := Lib.hid (markAny (some ⟨g, 0, none⟩) l.length B l _ hs.1 (own_below ho b0))
  have Z0 := Lib.hid (z0.below b0); have Z1 := Lib.hid (z1.below b0); have Z2 := Lib.hid (z2.below b0)
  have K0 : Hid (Keep g (a2 + 1) w _) := Lib.hid (Keep.of_below b0)
  have N1 := Lib.hid n1; have HU : Hid (a2 < w.heap.size ∧ g < a0 ∧ a0 < a1 ∧ a1 < a2 ∧ l.length ≤ 1048576) := Lib.hid ⟨hw2, hg, h01, h12, hs.1⟩
  have HN := Lib.hid hn
  clear n1 b0 z0 z1 z2 ho hs hw2 hg h01 h12 hn
  generalize hV : ldV (.slice (some ⟨g, 0, none⟩) l.length l.length) E H T S (.slice (some ⟨a0, 0, none⟩) L0.length L0.length) (.slice (some ⟨a1, 0, none⟩) L1.length L1.length) (.slice (some ⟨a2, 0, none⟩) L2.length L2.length) n = V at *
  have HV := Lib.hid hV
  clear hV
  go_enter Try.func13, Try.ntmps13
  go_wp2_with fail
  refine (C.out).mono ?_
  rintro e w1 ⟨rfl, _, gm⟩
  have hu := HU.out
  have hrow : (Value.slice (some ⟨g, 0, none⟩) l.length l.length).ownBlock = some g := rfl
  rw [hrow] at gm
  have Y0 := Lib.hid (Z0.out.kept (gm.block a0 Z0.out.lt.2 (by simp; omega))); have Y1 := Lib.hid (Z1.out.kept (gm.block a1 Z1.out.lt.2 (by simp; omega))); have Y2 := Lib.hid (Z2.out.kept (gm.block a2 Z2.out.lt.2 (by simp; omega)))
  have N2 := Lib.hid ((gm.block w.heap.size (by simp) (by simp; omega)).trans N1.out)
  have K1 := Lib.hid (K0.out.trans (Keep.of_grown gm (Nat.le_refl _) (by omega)))
  have R := Lib.hid (rep_range (HV.out ▸ N2.out))
  obtain ⟨K, hK⟩ : ∃ K : Nat, K = 1 + 3 * l.length := ⟨_, rfl⟩
  rw [← hK]
  have C2 := Lib.hid (markRepG a0 a1 a2 L0.length L1.length L2.length L0 L1 L2 B K n w1 Y0.out Y1.out Y2.out hu.2.2.1 hu.2.2.2.1 HN.out (by omega))
  clear gm hu hrow Z0 Z1 Z2 N1 K0 C x0 hK Y0 Y1 Y2 N2
  go_wp2_with (refine wpList_load_mid rfl 41 (.tmp 9) rfl w.heap.size 5 rfl [.slice (some ⟨a0, 0, none⟩) L0.length L0.length, .slice (some ⟨a1, 0, none⟩) L1.length L1.length, .slice (some ⟨a2, 0, none⟩) L2.length L2.length, .int .i64 n] _ R.out Try.underlying41 rfl (by kernel_rfl) ?_)
  refine (C2.out).mono ?_
  rintro e w2 ⟨⟨J, rfl⟩, k2⟩
  have K2 : Hid (Keep g (a2 + 1) w w2) := Lib.hid (K1.out.trans ⟨k2.os, k2.tape, k2.output, k2.size, fun k hk hc => k2.block k hk (by have := HU.out; omega)⟩)
  clear k2 K1 C2 R
  go_wp2
  go_ret
  exact ⟨⟨_, rfl⟩, K2.out⟩
end Go.Proofs.Ytcnmklgcifdmoaa
