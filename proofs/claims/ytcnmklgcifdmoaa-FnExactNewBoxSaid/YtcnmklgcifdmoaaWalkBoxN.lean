/-
  spec.NewBox and impl.NewBox: a box that runs from the entry of what was loaded, or a code; conditions: those in each head.
-/
import Derived.Test.YtcnmklgcifdmoaaWalkLo
import Derived.Test.YtcnmklgcifdmoaaWalkBoxO2
import Derived.Test.YtcnmklgcifdmoaaWalkOwn
import Derived.Test.YtcnmklgcifdmoaaWalkKs
namespace Go.Proofs.Ytcnmklgcifdmoaa
open Go.RowKit Go.Sort
set_option linter.unusedVariables false
set_option linter.unusedSimpArgs false
theorem results_cell_rowB {P : Program} {fn : Func} {p u : Tmp} {ty : TypeId} (h : fn.results = #[.cell p ty, .tmp u]) (tmps : Array Value) (w : World) (g : Nat) (t : TypeId) (cs : Array Value) (fr : Nat × Nat) (d : TypeDesc)
    (hp : tmps.getD p undef = .pointer (some ⟨g, 0, none⟩)) (hg : w.heap[g]? = some (.cells cs t fr))
    (hu : P.underlying ty = some d) (hd : (match d with | .struct _ | .array _ _ => true | _ => false) = true) (hi : (P.info? ty).map (·.size) = some cs.size) :
    (results fn tmps).run P w = .ok (.tuple #[.agg cs, tmps.getD u undef]) w := by
  rw [results_cell_tmp h, hp]
  simp [asAddr, run_loadVar_row w g t ty cs fr d hg hu hd hi]
theorem cell_new' {w : World} {A : Array Value} {t : TypeId} {b : Nat} (h : (w.alloc (.cells A t)).heap[b]? = some (.cells A t (0, 0))) (i : Nat) {v : Value} (hv : A[i]? = some v) (Z : Array Value) (t' : TypeId) : ((w.alloc (.cells A t)).alloc (.cells Z t')).cell? ⟨b, i, none⟩ = some v :=
  (cell_of_row _ b i _ _ _ ((Below.heap_alloc _ _ _ (lt_of_blk' h)).trans h)).trans hv
def newC (E : Int) : Cp := ⟨fn16 0 0 0 0 20480 20480 0 0 0 0 0 0 0 0 0 16384, E, 0⟩
/-- the box that a program begins with -/
def newB (E H : Int) (inp : ByteArray) (sd : Int) : Bo := ⟨newC E, H, H, inp, 0, ByteArray.empty, 0, sd, 1, 0, 0, 0⟩
def newB0 (H : Int) (inp : ByteArray) (sd : Int) : Bo := ⟨cp0, H, H, inp, 0, ByteArray.empty, 0, sd, 1, 0, 0, 0⟩
/-- the boxes that a call begins with: what was handed in, the answer's -/
structure NB0 (w W : World) (A : Array Value) : Prop where
  a : W.heap[w.heap.size]? = some (.cells A 43 (0, 0))
  r : W.heap[w.heap.size + 1]? = some (.cells (boV bo0 (.slice none 0 0)) 38 (0, 0))
  be : Below w.heap.size w W
theorem NB0.new (w : World) (A : Array Value) : NB0 w ((w.alloc (.cells A 43)).alloc (.cells (boV bo0 (.slice none 0 0)) 38)) A := by
  have e1 := heap_alloc_new w (.cells A 43)
  have e2 := heap_alloc_new (w.alloc (.cells A 43)) (.cells (boV bo0 (.slice none 0 0)) 38)
  have z2 : (w.alloc (.cells A 43)).heap.size = w.heap.size + 1 := by simp
  rw [z2] at e2
  exact ⟨(Below.heap_alloc _ _ _ (by simp)).trans e1, e2, ((Below.refl _ _).alloc (Nat.le_refl _) _).alloc (by simp) _⟩
theorem NB0.call {w W W' : World} {A : Array Value} (h : NB0 w W A) (hb : Below W.heap.size W W') : NB0 w W' A :=
  ⟨(hb.block _ (lt_of_blk' h.a)).trans h.a, (hb.block _ (lt_of_blk' h.r)).trans h.r, h.be.trans (hb.mono h.be.size)⟩
/-- a third box beside them -/
structure NBx (w W : World) (A : Array Value) (m : Nat) (y : Bo) (my : Value) : Prop where
  s : NB0 w W A
  o : W.heap[m]? = some (.cells (boV y my) 38 (0, 0))
  n : w.heap.size + 1 < m
theorem NBx.new {w W : World} {A : Array Value} (h : NB0 w W A) (Z : Array Value) (y : Bo) (my : Value) : NBx w ((W.alloc (.cells Z 38)).setRow W.heap.size (boV y my)) A W.heap.size y my := by
  have hb : Below W.heap.size W ((W.alloc (.cells Z 38)).setRow W.heap.size (boV y my)) := Go.below_setRow (below1 W _) (Nat.le_refl _) _
  exact ⟨h.call hb, setRow_heap _ _ _ _ _ _ (heap_alloc_new W _), lt_of_blk' h.r⟩
theorem NBx.set {w W : World} {A : Array Value} {m : Nat} {y y' : Bo} {my my' : Value} (h : NBx w W A m y my) (i : Nat) (v : Value) (e : (boV y my).setIfInBounds i v = boV y' my') : NBx w (W.setCell ⟨m, i, none⟩ v) A m y' my' :=
  ⟨⟨(Below.heap_setCell _ _ _ _ (by have := h.n; simp; omega)).trans h.s.a, (Below.heap_setCell _ _ _ _ (by have := h.n; simp; omega)).trans h.s.r, h.s.be.setCell (by have := h.n; simp; omega) _⟩, row_set h.o i _ e, h.n⟩
theorem NBx.call {w W W' : World} {A : Array Value} {m : Nat} {y : Bo} {my : Value} (h : NBx w W A m y my) (hb : Below W.heap.size W W') : NBx w W' A m y my :=
  ⟨h.s.call hb, (hb.block _ (lt_of_blk' h.o)).trans h.o, h.n⟩
theorem info30 : (Try.prog.info? 38).map (·.size) = some 30 := by kernel_rfl
set_option maxRecDepth 100000 in
set_option maxHeartbeats 4000000 in
/-- spec.l12New -/
theorem l12NewC (p : Option Addr) (cap : Nat) (l : List Pg) (E H T S : Int) (x0 x1 x2 : Value) (n : Int) (inp : ByteArray) (sd : Int) (w : World) :
    Calls Try.prog 30 #[.agg (ldV (.slice p l.length cap) E H T S x0 x1 x2 n), .string inp, .int .i64 sd] w fun e w' => e = .returned (.agg (boV (newB E H inp sd) (.slice p l.length cap))) ∧ Below w.heap.size w w' := by
  have N0 := Lib.hid (NB0.new w (ldV (.slice p l.length cap) E H T S x0 x1 x2 n))
  have hO := Lib.hid (boV_one (newB0 H inp sd) p l.length cap)
  have hO2 := Lib.hid (boV_one (newB E H inp sd) p l.length cap)
  generalize hA : ldV (.slice p l.length cap) E H T S x0 x1 x2 n = A at *
  have HA := Lib.hid hA
  clear hA
  go_enter Try.func30, Try.ntmps30
  go_upto_region 1 with fail
  generalize hW : (w.alloc (.cells A 43)).alloc (.cells #[.int .i64 0, .int .i64 0, .int .i64 0, .int .i64 0, .int .i64 0, .int .i64 0, .int .i64 0, .int .i64 0, .int .i64 0, .int .i64 0, .int .i64 0, .int .i64 0, .int .i64 0, .int .i64 0, .int .i64 0, .int .i64 0, .int .i64 0, .int .i64 0, .slice none 0 0, .int .i64 0, .int .i64 0, .string ⟨#[]⟩, .int .i64 0, .string ⟨#[]⟩, .int .i64 0, .int .i64 0, .int .i64 0, .int .i64 0, .int .i64 0, .int .i64 0] 38) = W
  have M0 : Hid (NB0 w W A) := Lib.hid (by rw [← hW]; exact N0.out)
  clear hW N0
  have a0 := (cell_of_row _ _ 0 _ _ _ M0.out.a).trans (show A[0]? = some (.slice p l.length cap) by rw [← HA.out]; rfl)
  have a2 := (cell_of_row _ _ 2 _ _ _ M0.out.a).trans (show A[2]? = some (.int .i64 H) by rw [← HA.out]; rfl)
  go_upto_region 2 with ((refine wpList_store_row rfl 38 (.tmp 7) (.tmp 16) rfl W.heap.size (boV (newB0 H inp sd) (.slice p l.length cap)) rfl rfl 38 _ (heap_alloc_new W _) (by rw [boV_size]; exact info30) rfl hO.out ?_; generalize hU : (W.alloc (.cells #[.int .i64 0, .int .i64 0, .int .i64 0, .int .i64 0, .int .i64 0, .int .i64 0, .int .i64 0, .int .i64 0, .int .i64 0, .int .i64 0, .int .i64 0, .int .i64 0, .int .i64 0, .int .i64 0, .int .i64 0, .int .i64 0, .int .i64 0, .int .i64 0, .slice none 0 0, .int .i64 0, .int .i64 0, .string ⟨#[]⟩, .int .i64 0, .string ⟨#[]⟩, .int .i64 0, .int .i64 0, .int .i64 0, .int .i64 0, .int .i64 0, .int .i64 0] 38)).setRow W.heap.size (boV (newB0 H inp sd) (.slice p l.length cap)) = U))
  have U0 : Hid (NBx w U A W.heap.size (newB0 H inp sd) (.slice p l.length cap)) := Lib.hid (by rw [← hU]; exact NBx.new M0.out _ _ _)
  clear hU a0 a2 M0
  have ca := (cell_of_row _ _ 1 _ _ _ U0.out.s.a).trans (show A[1]? = some (.int .i64 E) by rw [← HA.out]; rfl)
  have co := (cell_of_row _ _ 16 _ _ _ U0.out.o).trans (show (boV (newB0 H inp sd) (.slice p l.length cap))[16]? = some (.int .i64 0) from rfl)
  have fz : U.frozen? ⟨W.heap.size, 16, none⟩ = false := by simp [World.frozen?, U0.out.o]
  go_upto_region 3 with fail
  have U1 : Hid (NBx w (U.setCell ⟨W.heap.size, 16, none⟩ (.int .i64 E)) A W.heap.size { newB0 H inp sd with c := { cp0 with ip := E } } (.slice p l.length cap)) := Lib.hid (U0.out.set 16 _ rfl)
  clear ca co fz U0
  generalize U.setCell ⟨W.heap.size, 16, none⟩ (.int .i64 E) = X1 at *
  have co := (cell_of_row _ _ 4 _ _ _ U1.out.o).trans (show _ = some (.int .i64 0) from rfl)
  have fz : X1.frozen? ⟨W.heap.size, 4, none⟩ = false := by simp [World.frozen?, U1.out.o]
  go_upto_region 4 with fail
  have U2 : Hid (NBx w (X1.setCell ⟨W.heap.size, 4, none⟩ (.int .i64 20480)) A W.heap.size { newB0 H inp sd with c := ⟨fn16 0 0 0 0 20480 0 0 0 0 0 0 0 0 0 0 0, E, 0⟩ } (.slice p l.length cap)) := Lib.hid (U1.out.set 4 _ rfl)
  clear co fz U1
  generalize X1.setCell ⟨W.heap.size, 4, none⟩ (.int .i64 20480) = X2 at *
  have co := (cell_of_row _ _ 5 _ _ _ U2.out.o).trans (show _ = some (.int .i64 0) from rfl)
  have fz : X2.frozen? ⟨W.heap.size, 5, none⟩ = false := by simp [World.frozen?, U2.out.o]
  go_upto_region 5 with fail
  have U3 : Hid (NBx w (X2.setCell ⟨W.heap.size, 5, none⟩ (.int .i64 20480)) A W.heap.size { newB0 H inp sd with c := ⟨fn16 0 0 0 0 20480 20480 0 0 0 0 0 0 0 0 0 0, E, 0⟩ } (.slice p l.length cap)) := Lib.hid (U2.out.set 5 _ rfl)
  clear co fz U2
  generalize X2.setCell ⟨W.heap.size, 5, none⟩ (.int .i64 20480) = X3 at *
  have co := (cell_of_row _ _ 15 _ _ _ U3.out.o).trans (show _ = some (.int .i64 0) from rfl)
  have fz : X3.frozen? ⟨W.heap.size, 15, none⟩ = false := by simp [World.frozen?, U3.out.o]
  go_upto_region 6 with fail
  have U4 : Hid (NBx w (X3.setCell ⟨W.heap.size, 15, none⟩ (.int .i64 16384)) A W.heap.size (newB E H inp sd) (.slice p l.length cap)) := Lib.hid (U3.out.set 15 _ rfl)
  clear co fz U3
  generalize X3.setCell ⟨W.heap.size, 15, none⟩ (.int .i64 16384) = X4 at *
  have R5 := Lib.hid U4.out.o
  have Z5 := Lib.hid U4.out.s.r
  have sz := boV_size (newB E H inp sd) (.slice p l.length cap)
  have B5 := Lib.hid U4.out.s.be
  clear U4 hO
  generalize hV2 : boV (newB E H inp sd) (.slice p l.length cap) = V2 at *
  have HV2 := Lib.hid hV2
  have SZ := Lib.hid sz
  clear sz hV2
  have Y5 := Lib.hid (setRow_heap _ _ _ V2 _ _ Z5.out)
  have D5 := Lib.hid (Go.below_setRow B5.out (by omega : w.heap.size ≤ w.heap.size + 1) V2)
  go_wp2_with (first | (refine wpList_load_row rfl 38 (.tmp 7) rfl W.heap.size rfl 38 V2 (0, 0) _ R5.out Try.underlying38 rfl (by rw [SZ.out]; exact info30) ?_) | (refine wpList_store_row rfl 38 (.tmp 6) (.tmp 30) rfl (w.heap.size + 1) V2 rfl rfl 38 _ Z5.out (by rw [SZ.out]; exact info30) (by rw [SZ.out]; rfl) hO2.out ?_))
  refine bodyPost_ret (v := .agg V2) (by exact results_cell_row Try.results30 _ _ (w.heap.size + 1) 38 V2 (0, 0) _ rfl Y5.out Try.underlying38 rfl (by rw [SZ.out]; exact info30)) (by rfl) ⟨by rw [HV2.out], D5.out⟩
set_option maxRecDepth 100000 in
set_option maxHeartbeats 4000000 in
theorem l12LoadedC (g cap : Nat) (l : List Pg) (E H T S : Int) (x0 x1 x2 : Value) (n : Int) (w : World) (hf : Fits l) (hr : Rd w (some ⟨g, 0, none⟩) l) :
    Calls Try.prog 28 #[.agg (ldV (.slice (some ⟨g, 0, none⟩) l.length cap) E H T S x0 x1 x2 n)] w fun e w' => e = .returned (.bool (okB l && decide (512 ≤ H ∧ H ≤ 3584))) ∧ Below w.heap.size w w' := by
  have n1 := heap_alloc_new w (.cells (ldV (.slice (some ⟨g, 0, none⟩) l.length cap) E H T S x0 x1 x2 n) 43)
  have n3 := below1 w (.cells (ldV (.slice (some ⟨g, 0, none⟩) l.length cap) E H T S x0 x1 x2 n) 43)
  have HR := Lib.hid (hr.below n3); have N1 := Lib.hid n1; have N3 := Lib.hid n3
  have a0 := (cell_of_row _ _ 0 _ _ _ n1).trans (show (ldV (.slice (some ⟨g, 0, none⟩) l.length cap) E H T S x0 x1 x2 n)[0]? = some (.slice (some ⟨g, 0, none⟩) l.length cap) from rfl)
  generalize hA : ldV (.slice (some ⟨g, 0, none⟩) l.length cap) E H T S x0 x1 x2 n = A at *
  have HA := Lib.hid hA
  clear hA n1 n3 hr
  go_enter Try.func28, Try.ntmps28
  go_wp2_with fail
  refine (specOk _ cap l _ hf HR.out).mono ?_
  rintro e w1 ⟨rfl, hb⟩
  have N2 := Lib.hid ((hb.block _ (lt_of_blk' N1.out)).trans N1.out)
  have L1 := Lib.hid (N3.out.trans (hb.mono N3.out.size))
  have a2 := (cell_of_row _ _ 2 _ _ _ N2.out).trans (show A[2]? = some (.int .i64 H) by rw [← HA.out]; rfl)
  clear hb a0 N1 N3 HR
  cases hm : okB l with
  | false =>
    go_wp2
    go_ret
    exact ⟨by rw [hm]; rfl, L1.out⟩
  | true =>
  go_wp2_with fail
  by_cases h1 : 512 ≤ H ∧ H ≤ 3584
  · refine (inYes H 512 3584 _ h1.1 h1.2).mono ?_
    rintro e wz ⟨rfl, rfl⟩
    go_wp2
    go_ret
    exact ⟨by rw [hm, decide_eq_true h1]; rfl, L1.out⟩
  · refine (inNo H 512 3584 _ (by omega)).mono ?_
    rintro e wz ⟨rfl, rfl⟩
    go_wp2
    go_ret
    exact ⟨by rw [hm, decide_eq_false h1]; rfl, L1.out⟩
/-- the code beside a new box -/
noncomputable def nbCode (l : List Pg) (H : Int) (inp : ByteArray) (sd : Int) : Int :=
  if 65536 < inp.size then 2 else if (okB l && decide (512 ≤ H ∧ H ≤ 3584)) = false then 1 else if 1024 < inp.size then 8 else if 0 ≤ sd ∧ sd ≤ 2147483647 then 0 else 4
def nbL (c : Int) (l : List Pg) : List Pg := if c = 0 then l else []
def nbB (c E H : Int) (inp : ByteArray) (sd : Int) : Bo := if c = 0 then newB E H inp sd else bo0
/-- what is answered: a box with a memory of its own, and a code -/
def NbIs (w w' : World) (LL : List Pg) (nb : Bo) (c : Int) (e : Ending) : Prop := ∃ p cp, e = .returned (.tuple #[.agg (boV nb (.slice p LL.length cp)), .int .i64 c]) ∧ Owns w' w.heap.size p cp LL ∧ Below w.heap.size w w'
theorem nbIs_no {w w' : World} {l : List Pg} {E H c : Int} {inp : ByteArray} {sd : Int} {e : Ending} (hc : nbCode l H inp sd = c) (h0 : c ≠ 0) (he : e = .returned (.tuple #[.agg (boV bo0 (.slice none 0 0)), .int .i64 c])) (hb : Below w.heap.size w w') : NbIs w w' (nbL (nbCode l H inp sd) l) (nbB (nbCode l H inp sd) E H inp sd) (nbCode l H inp sd) e := by
  rw [hc]
  unfold nbL nbB
  rw [if_neg h0, if_neg h0]
  exact ⟨none, 0, he, owns_nil _ _, hb⟩
theorem nbIs_yes {w w' : World} {l : List Pg} {E H : Int} {inp : ByteArray} {sd : Int} {e : Ending} {p : Option Addr} {cp : Nat} (hc : nbCode l H inp sd = 0) (he : e = .returned (.tuple #[.agg (boV (newB E H inp sd) (.slice p l.length cp)), .int .i64 0])) (ho : Owns w' w.heap.size p cp l) (hb : Below w.heap.size w w') : NbIs w w' (nbL (nbCode l H inp sd) l) (nbB (nbCode l H inp sd) E H inp sd) (nbCode l H inp sd) e := by
  rw [hc]
  exact ⟨p, cp, he, ho, hb⟩
set_option maxRecDepth 100000 in
set_option maxHeartbeats 8000000 in
/-- spec.NewBox -/
theorem newS (g cap : Nat) (l : List Pg) (E H T S : Int) (x0 x1 x2 : Value) (hx : ∀ i, i ∈ [x0, x1, x2] → i.oneCell' = true) (n : Int) (inp : ByteArray) (sd : Int) (w : World) (hi : inp.size ≤ maxLen) (hf : Fits l) (hn : l.length ≤ 1048576) (hr : Rd w (some ⟨g, 0, none⟩) l) :
    Calls Try.prog 8 #[.agg (ldV (.slice (some ⟨g, 0, none⟩) l.length cap) E H T S x0 x1 x2 n), .string inp, .int .i64 sd] w fun e w' => NbIs w w' (nbL (nbCode l H inp sd) l) (nbB (nbCode l H inp sd) E H inp sd) (nbCode l H inp sd) e := by
  have N0 := Lib.hid (NB0.new w (ldV (.slice (some ⟨g, 0, none⟩) l.length cap) E H T S x0 x1 x2 n))
  have hO := Lib.hid (boV_one bo0 none 0 0)
  have CL := Lib.hid (fun W hR => l12LoadedC g cap l E H T S x0 x1 x2 n W hf hR)
  have CN := Lib.hid (fun W => l12NewC (some ⟨g, 0, none⟩) cap l E H T S x0 x1 x2 n inp sd W)
  have CO := Lib.hid (fun W hR => l02OwnC g 0 cap l W hn hR)
  have sz : (ldV (.slice (some ⟨g, 0, none⟩) l.length cap) E H T S x0 x1 x2 n).size = 9 := rfl
  have hmx : inp.size ≤ 9223372036854775807 := hi
  generalize hA : ldV (.slice (some ⟨g, 0, none⟩) l.length cap) E H T S x0 x1 x2 n = A at *
  have SZ := Lib.hid sz
  have I9 := Lib.hid (show (Try.prog.info? 43).map (·.size) = some 9 by kernel_rfl)
  have HR := Lib.hid (hr.below N0.out.be)
  clear hA sz hf hr hx hi hn
  go_enter Try.func8, Try.ntmps8
  go_upto_region 1 with fail
  generalize hW : (w.alloc (.cells A 43)).alloc (.cells #[.int .i64 0, .int .i64 0, .int .i64 0, .int .i64 0, .int .i64 0, .int .i64 0, .int .i64 0, .int .i64 0, .int .i64 0, .int .i64 0, .int .i64 0, .int .i64 0, .int .i64 0, .int .i64 0, .int .i64 0, .int .i64 0, .int .i64 0, .int .i64 0, .slice none 0 0, .int .i64 0, .int .i64 0, .string ⟨#[]⟩, .int .i64 0, .string ⟨#[]⟩, .int .i64 0, .int .i64 0, .int .i64 0, .int .i64 0, .int .i64 0, .int .i64 0] 38) = W
  have M0 : Hid (NB0 w W A) := Lib.hid (by rw [← hW]; exact N0.out)
  have HR0 : Hid (Rd W (some ⟨g, 0, none⟩) l) := Lib.hid (by rw [← hW]; exact HR.out)
  clear hW N0 HR
  by_cases h1 : 65536 < inp.size
  · have q1 : decide ((65536 : Int) < (inp.size : Int)) = true := decide_eq_true (by omega)
    have HC : Hid (nbCode l H inp sd = 2) := Lib.hid (by unfold nbCode; rw [if_pos h1])
    clear h1
    go_wp2_with (refine wpList_store_row rfl 38 (.tmp 6) (.tmp 12) rfl (w.heap.size + 1) (boV bo0 (.slice none 0 0)) rfl rfl 38 _ M0.out.r (by rw [boV_size]; exact info30) rfl hO.out ?_)
    refine bodyPost_ret (v := .tuple #[.agg (boV bo0 (.slice none 0 0)), .int .i64 2]) (by exact results_cell_rowB Try.results8 _ _ (w.heap.size + 1) 38 (boV bo0 (.slice none 0 0)) (0, 0) _ rfl (setRow_heap _ _ _ _ _ _ M0.out.r) Try.underlying38 rfl (by rw [boV_size]; exact info30)) (by rfl) ?_
    exact nbIs_no HC.out (by decide) rfl (Go.below_setRow M0.out.be (by omega) _)
  have q1 : decide ((65536 : Int) < (inp.size : Int)) = false := decide_eq_false (by omega)
  go_wp2_with (refine wpList_load_row rfl 43 (.tmp 3) rfl w.heap.size rfl 43 A (0, 0) _ M0.out.a Try.underlying43 rfl (by rw [SZ.out]; exact I9.out) ?_)
  refine (CL.out _ HR0.out).mono ?_
  rintro e w1 ⟨rfl, b1⟩
  have M1 := Lib.hid (M0.out.call b1); have HR1 := Lib.hid (HR0.out.below b1)
  clear b1 M0 HR0 CL
  cases hq : (okB l && decide (512 ≤ H ∧ H ≤ 3584)) with
  | false =>
    have HC : Hid (nbCode l H inp sd = 1) := Lib.hid (by unfold nbCode; rw [if_neg h1, if_pos hq])
    clear h1 hq
    go_wp2_with (refine wpList_store_row rfl 38 (.tmp 6) (.tmp 16) rfl (w.heap.size + 1) (boV bo0 (.slice none 0 0)) rfl rfl 38 _ M1.out.r (by rw [boV_size]; exact info30) rfl hO.out ?_)
    refine bodyPost_ret (v := .tuple #[.agg (boV bo0 (.slice none 0 0)), .int .i64 1]) (by exact results_cell_rowB Try.results8 _ _ (w.heap.size + 1) 38 (boV bo0 (.slice none 0 0)) (0, 0) _ rfl (setRow_heap _ _ _ _ _ _ M1.out.r) Try.underlying38 rfl (by rw [boV_size]; exact info30)) (by rfl) ?_
    exact nbIs_no HC.out (by decide) rfl (Go.below_setRow M1.out.be (by omega) _)
  | true =>
  by_cases h2 : 1024 < inp.size
  · have q2 : decide ((1024 : Int) < (inp.size : Int)) = true := decide_eq_true (by omega)
    have HC : Hid (nbCode l H inp sd = 8) := Lib.hid (by unfold nbCode; rw [if_neg h1, if_neg (by rw [hq]; simp), if_pos h2])
    clear h1 h2 hq
    go_wp2_with (refine wpList_store_row rfl 38 (.tmp 6) (.tmp 20) rfl (w.heap.size + 1) (boV bo0 (.slice none 0 0)) rfl rfl 38 _ M1.out.r (by rw [boV_size]; exact info30) rfl hO.out ?_)
    refine bodyPost_ret (v := .tuple #[.agg (boV bo0 (.slice none 0 0)), .int .i64 8]) (by exact results_cell_rowB Try.results8 _ _ (w.heap.size + 1) 38 (boV bo0 (.slice none 0 0)) (0, 0) _ rfl (setRow_heap _ _ _ _ _ _ M1.out.r) Try.underlying38 rfl (by rw [boV_size]; exact info30)) (by rfl) ?_
    exact nbIs_no HC.out (by decide) rfl (Go.below_setRow M1.out.be (by omega) _)
  have q2 : decide ((1024 : Int) < (inp.size : Int)) = false := decide_eq_false (by omega)
  go_wp2_with fail
  by_cases h3 : 0 ≤ sd ∧ sd ≤ 2147483647
  rotate_left
  · have HC : Hid (nbCode l H inp sd = 4) := Lib.hid (by unfold nbCode; rw [if_neg h1, if_neg (by rw [hq]; simp), if_neg h2, if_neg h3])
    refine (inNo sd 0 2147483647 _ (by omega)).mono ?_
    rintro e wz ⟨rfl, rfl⟩
    clear h1 h2 h3 hq
    go_wp2_with (refine wpList_store_row rfl 38 (.tmp 6) (.tmp 24) rfl (w.heap.size + 1) (boV bo0 (.slice none 0 0)) rfl rfl 38 _ M1.out.r (by rw [boV_size]; exact info30) rfl hO.out ?_)
    refine bodyPost_ret (v := .tuple #[.agg (boV bo0 (.slice none 0 0)), .int .i64 4]) (by exact results_cell_rowB Try.results8 _ _ (w.heap.size + 1) 38 (boV bo0 (.slice none 0 0)) (0, 0) _ rfl (setRow_heap _ _ _ _ _ _ M1.out.r) Try.underlying38 rfl (by rw [boV_size]; exact info30)) (by rfl) ?_
    exact nbIs_no HC.out (by decide) rfl (Go.below_setRow M1.out.be (by omega) _)
  have HC : Hid (nbCode l H inp sd = 0) := Lib.hid (by unfold nbCode; rw [if_neg h1, if_neg (by rw [hq]; simp), if_neg h2, if_pos h3])
  refine (inYes sd 0 2147483647 _ h3.1 h3.2).mono ?_
  rintro e wz ⟨rfl, rfl⟩
  clear h1 h2 h3 hq q1 q2
  go_wp2_with (refine wpList_load_row rfl 43 (.tmp 3) rfl w.heap.size rfl 43 A (0, 0) _ M1.out.a Try.underlying43 rfl (by rw [SZ.out]; exact I9.out) ?_)
  refine (CN.out _).mono ?_
  rintro e w2 ⟨rfl, b2⟩
  have M2 := Lib.hid (M1.out.call b2); have HR2 := Lib.hid (HR1.out.below b2)
  have hO2 := Lib.hid (boV_one (newB E H inp sd) (some ⟨g, 0, none⟩) l.length cap)
  clear b2 M1 HR1 CN
  go_upto_region 10 with ((refine wpList_store_row rfl 38 (.tmp 8) (.tmp 28) rfl w2.heap.size (boV (newB E H inp sd) (.slice (some ⟨g, 0, none⟩) l.length cap)) rfl rfl 38 _ (heap_alloc_new w2 _) (by rw [boV_size]; exact info30) rfl hO2.out ?_; generalize hU : (w2.alloc (.cells #[.int .i64 0, .int .i64 0, .int .i64 0, .int .i64 0, .int .i64 0, .int .i64 0, .int .i64 0, .int .i64 0, .int .i64 0, .int .i64 0, .int .i64 0, .int .i64 0, .int .i64 0, .int .i64 0, .int .i64 0, .int .i64 0, .int .i64 0, .int .i64 0, .slice none 0 0, .int .i64 0, .int .i64 0, .string ⟨#[]⟩, .int .i64 0, .string ⟨#[]⟩, .int .i64 0, .int .i64 0, .int .i64 0, .int .i64 0, .int .i64 0, .int .i64 0] 38)).setRow w2.heap.size (boV (newB E H inp sd) (.slice (some ⟨g, 0, none⟩) l.length cap)) = U))
  have U0 : Hid (NBx w U A w2.heap.size (newB E H inp sd) (.slice (some ⟨g, 0, none⟩) l.length cap)) := Lib.hid (by rw [← hU]; exact NBx.new M2.out _ _ _)
  have HRU : Hid (Rd U (some ⟨g, 0, none⟩) l) := Lib.hid (by rw [← hU]; exact HR2.out.below (Go.below_setRow (below1 w2 _) (Nat.le_refl _) _))
  clear hU M2 HR2 hO2
  have ca := (cell_of_row _ _ 18 _ _ _ U0.out.o).trans (show (boV (newB E H inp sd) (.slice (some ⟨g, 0, none⟩) l.length cap))[18]? = some (.slice (some ⟨g, 0, none⟩) l.length cap) from rfl)
  go_wp2_with fail
  refine (CO.out _ HRU.out).mono ?_
  rintro e w3 ⟨g3, c3, rfl, o3, b3⟩
  have hz := U0.out.s.be.size
  have hm0 := lt_of_blk' U0.out.o
  have U1 := Lib.hid (U0.out.call b3)
  have O3 : Hid (Owns w3 w.heap.size (some ⟨g3, 0, none⟩) c3 l) := Lib.hid (Joins.ownsRow_le o3 hz)
  have HG : Hid (w2.heap.size < g3 ∧ w.heap.size + 1 < w2.heap.size) := Lib.hid ⟨by have := (o3.lt g3 rfl).1; omega, U0.out.n⟩
  clear b3 o3 hz hm0 ca U0 HRU CO
  have co := (cell_of_row _ _ 18 _ _ _ U1.out.o).trans (show _ = some (.slice (some ⟨g, 0, none⟩) l.length cap) from rfl)
  have fz : w3.frozen? ⟨w2.heap.size, 18, none⟩ = false := by simp [World.frozen?, U1.out.o]
  go_upto_region 11 with fail
  have U2 : Hid (NBx w (w3.setCell ⟨w2.heap.size, 18, none⟩ (.slice (some ⟨g3, 0, none⟩) l.length c3)) A w2.heap.size (newB E H inp sd) (.slice (some ⟨g3, 0, none⟩) l.length c3)) := Lib.hid (U1.out.set 18 _ rfl)
  have O4 : Hid (Owns (w3.setCell ⟨w2.heap.size, 18, none⟩ (.slice (some ⟨g3, 0, none⟩) l.length c3)) w.heap.size (some ⟨g3, 0, none⟩) c3 l) := Lib.hid (O3.out.kept2 (fun j e => by cases e; exact Below.heap_setCell _ _ _ _ (by have := HG.out; simp; omega)))
  clear co fz U1 O3
  generalize w3.setCell ⟨w2.heap.size, 18, none⟩ (.slice (some ⟨g3, 0, none⟩) l.length c3) = X at *
  have R5 := Lib.hid U2.out.o
  have Z5 := Lib.hid U2.out.s.r
  have sz := boV_size (newB E H inp sd) (.slice (some ⟨g3, 0, none⟩) l.length c3)
  have B5 := Lib.hid U2.out.s.be
  have hO5 := Lib.hid (boV_one (newB E H inp sd) (some ⟨g3, 0, none⟩) l.length c3)
  clear U2
  generalize hV2 : boV (newB E H inp sd) (.slice (some ⟨g3, 0, none⟩) l.length c3) = V2 at *
  have HV2 := Lib.hid hV2
  have SZ2 := Lib.hid sz
  clear sz hV2
  have Y5 := Lib.hid (setRow_heap _ _ _ V2 _ _ Z5.out)
  have D5 := Lib.hid (Go.below_setRow B5.out (by omega : w.heap.size ≤ w.heap.size + 1) V2)
  have O5 : Hid (Owns (X.setRow (w.heap.size + 1) V2) w.heap.size (some ⟨g3, 0, none⟩) c3 l) := Lib.hid (O4.out.kept2 (fun j e => by cases e; exact setRow_far _ _ _ _ (by have := HG.out; omega)))
  go_wp2_with (first | (refine wpList_load_row rfl 38 (.tmp 8) rfl w2.heap.size rfl 38 V2 (0, 0) _ R5.out Try.underlying38 rfl (by rw [SZ2.out]; exact info30) ?_) | (refine wpList_store_row rfl 38 (.tmp 6) (.tmp 33) rfl (w.heap.size + 1) V2 rfl rfl 38 _ Z5.out (by rw [SZ2.out]; exact info30) (by rw [SZ2.out]; rfl) hO5.out ?_))
  refine bodyPost_ret (v := .tuple #[.agg V2, .int .i64 0]) (by exact results_cell_rowB Try.results8 _ _ (w.heap.size + 1) 38 V2 (0, 0) _ rfl Y5.out Try.underlying38 rfl (by rw [SZ2.out]; exact info30)) (by rfl) ?_
  exact nbIs_yes HC.out (by rw [HV2.out]) O5.out D5.out
theorem info18 : (Try.prog.info? 33).map (·.size) = some 18 := by kernel_rfl
/-- within impl.NewBox: the boxes, and a processor's -/
structure NCx (w W : World) (A : Array Value) (m : Nat) (c : Cp) : Prop where
  s : NB0 w W A
  o : W.heap[m]? = some (.cells (cpV c) 33 (0, 0))
  n : w.heap.size + 1 < m
theorem NCx.new {w W : World} {A : Array Value} (h : NB0 w W A) (Z : Array Value) (c : Cp) : NCx w ((W.alloc (.cells Z 33)).setRow W.heap.size (cpV c)) A W.heap.size c := by
  have hb : Below W.heap.size W ((W.alloc (.cells Z 33)).setRow W.heap.size (cpV c)) := Go.below_setRow (below1 W _) (Nat.le_refl _) _
  exact ⟨h.call hb, setRow_heap _ _ _ _ _ _ (heap_alloc_new W _), lt_of_blk' h.r⟩
theorem NCx.set {w W : World} {A : Array Value} {m : Nat} {c c' : Cp} (h : NCx w W A m c) (i : Nat) (v : Value) (e : (cpV c).setIfInBounds i v = cpV c') : NCx w (W.setCell ⟨m, i, none⟩ v) A m c' :=
  ⟨⟨(Below.heap_setCell _ _ _ _ (by have := h.n; simp; omega)).trans h.s.a, (Below.heap_setCell _ _ _ _ (by have := h.n; simp; omega)).trans h.s.r, h.s.be.setCell (by have := h.n; simp; omega) _⟩, row_set h.o i _ e, h.n⟩
theorem NCx.call {w W W' : World} {A : Array Value} {m : Nat} {c : Cp} (h : NCx w W A m c) (hb : Below W.heap.size W W') : NCx w W' A m c :=
  ⟨h.s.call hb, (hb.block _ (lt_of_blk' h.o)).trans h.o, h.n⟩
theorem callKB {a : Act} {w : World} {o : Oper} {f : FuncId} {args : Array Operand} {tys : Array TypeId} {vals : Array Value} {V : World → Value → Prop} (ho : o.op = Op.call { callee := Callee.value (Operand.func f), args := args, argTypes := tys }) (hev : args.map a.eval = vals) (hcf : (callFunc f vals).run Try.prog w = .ok (.enter f vals) w)
    (hC : Calls Try.prog f vals w fun e w'' => ∃ v, e = .returned v ∧ (Ext w w'' ∧ V w'' v)) : upK Try.prog (fun w' v => Ext w w' ∧ V w' v) ((execOp a.eval o).run Try.prog w) := by
  obtain ⟨od, op, oty, ops, oaf, ogd⟩ := o
  simp only at ho
  subst ho
  have e : (execOp a.eval { dst := od, op := Op.call { callee := Callee.value (Operand.func f), args := args, argTypes := tys }, type := oty, pos := ops, after := oaf, guard := ogd }).run Try.prog w = .ok (.enter f vals) w := by
    subst hev
    go_simp
  rw [e]
  exact hC
theorem noDstB {L : List Oper} {k : Nat} (h : L.all (fun o => o.dst != some k) = true) : ∀ (j : Nat) o, L.toArray[j]? = some o → o.dst ≠ some k := by
  intro j o ho hd
  have h1 := List.all_eq_true.1 h o (List.mem_iff_getElem?.2 ⟨j, by simpa using ho⟩)
  rw [hd] at h1
  simp at h1
theorem loadMB {a : Act} {w : World} {o : Oper} {k b : Nat} {v : Value} (ho : o.op = Op.load 36 (.tmp k)) (hx : a.tmps.getD k undef = .pointer (some ⟨b, 0, none⟩)) (hc : w.cell? ⟨b, 0, none⟩ = some v) : (execOp a.eval o).run Try.prog w = .ok (.value (.agg #[v])) w := by
  have hx' : a.tmps[k]?.getD undef = .pointer (some ⟨b, 0, none⟩) := by rw [← Array.getD_eq_getD_getElem?]; exact hx
  obtain ⟨od, op, oty, ops, oaf, ogd⟩ := o
  simp only at ho
  subst ho
  go_simp
theorem loadIB' {a : Act} {w : World} {o : Oper} {k b f : Nat} {v : Int} (ho : o.op = Op.load 3 (.tmp k)) (hx : a.tmps.getD k undef = .pointer (some ⟨b, f, none⟩)) (hc : w.cell? ⟨b, f, none⟩ = some (.int .i64 v)) : (execOp a.eval o).run Try.prog w = .ok (.value (.int .i64 v)) w := by
  have hx' : a.tmps[k]?.getD undef = .pointer (some ⟨b, f, none⟩) := by rw [← Array.getD_eq_getD_getElem?]; exact hx
  obtain ⟨od, op, oty, ops, oaf, ogd⟩ := o
  simp only at ho
  subst ho
  go_simp
theorem moveB {a : Act} {w : World} {o : Oper} {k : Nat} {v : Value} (ho : o.op = Op.move (.tmp k)) (hx : a.tmps.getD k undef = v) : (execOp a.eval o).run Try.prog w = .ok (.value v) w := by
  have hx' : a.tmps[k]?.getD undef = v := by rw [← Array.getD_eq_getD_getElem?]; exact hx
  obtain ⟨od, op, oty, ops, oaf, ogd⟩ := o
  simp only at ho
  subst ho
  go_simp
theorem fieldLB {a : Act} {w : World} {o : Oper} {k b f : Nat} (hf : f = 0 ∨ f = 2) (ho : o.op = Op.fieldAddr 43 (.tmp k) f) (hx : a.tmps.getD k undef = .pointer (some ⟨b, 0, none⟩)) : (execOp a.eval o).run Try.prog w = .ok (.value (.pointer (some ⟨b, f, none⟩))) w := by
  have hx' : a.tmps[k]?.getD undef = .pointer (some ⟨b, 0, none⟩) := by rw [← Array.getD_eq_getD_getElem?]; exact hx
  obtain ⟨od, op, oty, ops, oaf, ogd⟩ := o
  simp only at ho
  subst ho
  rcases hf with rfl | rfl
  · go_simp
  · go_simp
theorem loadCB {a : Act} {w : World} {o : Oper} {k b : Nat} {V : Array Value} (ho : o.op = Op.load 33 (.tmp k)) (hx : a.tmps.getD k undef = .pointer (some ⟨b, 0, none⟩)) (h : w.heap[b]? = some (.cells V 33 (0, 0))) (hV : V.size = 18) : (execOp a.eval o).run Try.prog w = .ok (.value (.agg V)) w := by
  have hx' : a.eval (.tmp k) = .pointer (some ⟨b, 0, none⟩) := hx
  obtain ⟨od, op, oty, ops, oaf, ogd⟩ := o
  simp only at ho
  subst ho
  have e : (Instr.loadAt 33 (.pointer (some ⟨b, 0, none⟩))).run Try.prog w = .ok (.agg V) w := by
    simp only [Instr.loadAt, Instr.sureAddr, Sem.run_bind, Sem.run_pure, Result.andThen_ok]
    exact run_loadVar_row w b 33 33 V (0, 0) _ h Try.underlying33 rfl (by rw [hV]; exact info18)
  simp only [execOp, hx', Sem.run_bind, e, Result.andThen_ok, Sem.run_pure]
/-- a copied memory -/
def MOwn (B : Nat) (l : List Pg) (w : World) (v : Value) : Prop := ∃ p c, v = .agg #[.slice p l.length c] ∧ Owns w B p c l
theorem MOwn.mono {B : Nat} {l : List Pg} {w w' : World} {v : Value} (he : Ext w w') (h : MOwn B l w v) : MOwn B l w' v := by
  obtain ⟨p, c, e, ho⟩ := h
  exact ⟨p, c, e, own_below ho he⟩
/-- a box with a copied memory -/
def XOwn (B : Nat) (l : List Pg) (nb : Bo) (w : World) (v : Value) : Prop := ∃ p c, v = .agg (boV nb (.slice p l.length c)) ∧ Owns w B p c l
theorem XOwn.mono {B : Nat} {l : List Pg} {nb : Bo} {w w' : World} {v : Value} (he : Ext w w') (h : XOwn B l nb w v) : XOwn B l nb w' v := by
  obtain ⟨p, c, e, ho⟩ := h
  exact ⟨p, c, e, own_below ho he⟩
set_option maxHeartbeats 4000000 in
set_option maxRecDepth 100000 in
theorem buildBB {a : Act} {w : World} {o : Oper} {k0 k1 k2 k3 k4 k8 : Nat} {p : Option Addr} {n c : Nat} {E H sd : Int} {inp : ByteArray} (ho : o.op = Op.build 38 #[(0, .tmp k0), (1, .tmp k1), (2, .tmp k2), (3, .tmp k3), (4, .tmp k4), (8, .tmp k8), (9, .const (.int .i64 1))])
    (h0 : a.tmps.getD k0 undef = .agg (cpV (newC E))) (h1 : a.tmps.getD k1 undef = .agg #[.slice p n c]) (h2 : a.tmps.getD k2 undef = .int .i64 H) (h3 : a.tmps.getD k3 undef = .int .i64 H) (h4 : a.tmps.getD k4 undef = .string inp) (h8 : a.tmps.getD k8 undef = .int .i64 sd) :
    (execOp a.eval o).run Try.prog w = .ok (.value (.agg (boV (newB E H inp sd) (.slice p n c)))) w := by
  have e0 : a.tmps[k0]?.getD undef = .agg #[.int .i64 0, .int .i64 0, .int .i64 0, .int .i64 0, .int .i64 20480, .int .i64 20480, .int .i64 0, .int .i64 0, .int .i64 0, .int .i64 0, .int .i64 0, .int .i64 0, .int .i64 0, .int .i64 0, .int .i64 0, .int .i64 16384, .int .i64 E, .int .i64 0] := by rw [← Array.getD_eq_getD_getElem?]; exact h0
  have e1 : a.tmps[k1]?.getD undef = .agg #[.slice p n c] := by rw [← Array.getD_eq_getD_getElem?]; exact h1
  have e2 : a.tmps[k2]?.getD undef = .int .i64 H := by rw [← Array.getD_eq_getD_getElem?]; exact h2
  have e3 : a.tmps[k3]?.getD undef = .int .i64 H := by rw [← Array.getD_eq_getD_getElem?]; exact h3
  have e4 : a.tmps[k4]?.getD undef = .string inp := by rw [← Array.getD_eq_getD_getElem?]; exact h4
  have e8 : a.tmps[k8]?.getD undef = .int .i64 sd := by rw [← Array.getD_eq_getD_getElem?]; exact h8
  obtain ⟨od, op, oty, ops, oaf, ogd⟩ := o
  simp only at ho
  subst ho
  go_simp
  rfl
set_option maxRecDepth 100000 in
set_option maxHeartbeats 8000000 in
/-- impl.NewBox -/
theorem newI (g cap : Nat) (l : List Pg) (E H T S : Int) (x0 x1 x2 : Value) (n : Int) (inp : ByteArray) (sd : Int) (w : World) (hi : inp.size ≤ maxLen) (hs : Small l) (hr : Rd w (some ⟨g, 0, none⟩) l) :
    Calls Try.prog 10 #[.agg (ldV (.slice (some ⟨g, 0, none⟩) l.length cap) E H T S x0 x1 x2 n), .string inp, .int .i64 sd] w fun e w' => NbIs w w' (nbL (nbCode l H inp sd) l) (nbB (nbCode l H inp sd) E H inp sd) (nbCode l H inp sd) e := by
  have N0 := Lib.hid (NB0.new w (ldV (.slice (some ⟨g, 0, none⟩) l.length cap) E H T S x0 x1 x2 n))
  have hO := Lib.hid (boV_one bo0 none 0 0)
  have CO := Lib.hid (fun W hR => asItWasC (some ⟨g, 0, none⟩) cap l W (Ad.own g) hs hR)
  have CM := Lib.hid (fun W hR => memOkC (some ⟨g, 0, none⟩) cap l W (Ad.own g) hs hR)
  have hmx : inp.size ≤ 9223372036854775807 := hi
  generalize hA : ldV (.slice (some ⟨g, 0, none⟩) l.length cap) E H T S x0 x1 x2 n = A at *
  have HA := Lib.hid hA
  have HR := Lib.hid (hr.below N0.out.be)
  have hm := mixed
  clear hA hs hr hi
  go_enter Try.func10, Try.ntmps10
  go_upto_region 1 with fail
  generalize hW : (w.alloc (.cells A 43)).alloc (.cells #[.int .i64 0, .int .i64 0, .int .i64 0, .int .i64 0, .int .i64 0, .int .i64 0, .int .i64 0, .int .i64 0, .int .i64 0, .int .i64 0, .int .i64 0, .int .i64 0, .int .i64 0, .int .i64 0, .int .i64 0, .int .i64 0, .int .i64 0, .int .i64 0, .slice none 0 0, .int .i64 0, .int .i64 0, .string ⟨#[]⟩, .int .i64 0, .string ⟨#[]⟩, .int .i64 0, .int .i64 0, .int .i64 0, .int .i64 0, .int .i64 0, .int .i64 0] 38) = W
  have M0 : Hid (NB0 w W A) := Lib.hid (by rw [← hW]; exact N0.out)
  have HR0 : Hid (Rd W (some ⟨g, 0, none⟩) l) := Lib.hid (by rw [← hW]; exact HR.out)
  clear hW N0 HR
  by_cases h1 : 65536 < inp.size
  · have q1 : decide ((65536 : Int) < (inp.size : Int)) = true := decide_eq_true (by omega)
    have HC : Hid (nbCode l H inp sd = 2) := Lib.hid (by unfold nbCode; rw [if_pos h1])
    clear h1
    go_wp2_with (refine wpList_store_row rfl 38 (.tmp 6) (.tmp 13) rfl (w.heap.size + 1) (boV bo0 (.slice none 0 0)) rfl rfl 38 _ M0.out.r (by rw [boV_size]; exact info30) rfl hO.out ?_)
    refine bodyPost_ret (v := .tuple #[.agg (boV bo0 (.slice none 0 0)), .int .i64 2]) (by exact results_cell_rowB Try.results10 _ _ (w.heap.size + 1) 38 (boV bo0 (.slice none 0 0)) (0, 0) _ rfl (setRow_heap _ _ _ _ _ _ M0.out.r) Try.underlying38 rfl (by rw [boV_size]; exact info30)) (by rfl) ?_
    exact nbIs_no HC.out (by decide) rfl (Go.below_setRow M0.out.be (by omega) _)
  have q1 : decide ((65536 : Int) < (inp.size : Int)) = false := decide_eq_false (by omega)
  have a0 := (cell_of_row _ _ 0 _ _ _ M0.out.a).trans (show A[0]? = some (.slice (some ⟨g, 0, none⟩) l.length cap) by rw [← HA.out]; rfl)
  go_wp2_with fail
  refine (CM.out _ HR0.out).mono ?_
  rintro e w1 ⟨rfl, b1⟩
  have M1 := Lib.hid (M0.out.call b1); have HR1 := Lib.hid (HR0.out.below b1)
  have a2 := (cell_of_row _ _ 2 _ _ _ M1.out.a).trans (show A[2]? = some (.int .i64 H) by rw [← HA.out]; rfl)
  clear b1 a0 M0 HR0 CM
  cases hk : okB l with
  | false =>
    have HC : Hid (nbCode l H inp sd = 1) := Lib.hid (by unfold nbCode; rw [if_neg h1, if_pos (by rw [hk]; rfl)])
    clear h1 hk
    go_wp2_with (refine wpList_store_row rfl 38 (.tmp 6) (.tmp 25) rfl (w.heap.size + 1) (boV bo0 (.slice none 0 0)) rfl rfl 38 _ M1.out.r (by rw [boV_size]; exact info30) rfl hO.out ?_)
    refine bodyPost_ret (v := .tuple #[.agg (boV bo0 (.slice none 0 0)), .int .i64 1]) (by exact results_cell_rowB Try.results10 _ _ (w.heap.size + 1) 38 (boV bo0 (.slice none 0 0)) (0, 0) _ rfl (setRow_heap _ _ _ _ _ _ M1.out.r) Try.underlying38 rfl (by rw [boV_size]; exact info30)) (by rfl) ?_
    exact nbIs_no HC.out (by decide) rfl (Go.below_setRow M1.out.be (by omega) _)
  | true =>
  go_wp2_with fail
  refine (heapI H _).mono ?_
  rintro e wz ⟨rfl, rfl⟩
  by_cases hh : 512 ≤ H ∧ H ≤ 3584
  rotate_left
  · have qh := decide_eq_false hh
    have HC : Hid (nbCode l H inp sd = 1) := Lib.hid (by unfold nbCode; rw [if_neg h1, if_pos (by rw [hk, qh]; rfl)])
    clear h1 hk hh
    go_wp2_with (refine wpList_store_row rfl 38 (.tmp 6) (.tmp 25) rfl (w.heap.size + 1) (boV bo0 (.slice none 0 0)) rfl rfl 38 _ M1.out.r (by rw [boV_size]; exact info30) rfl hO.out ?_)
    refine bodyPost_ret (v := .tuple #[.agg (boV bo0 (.slice none 0 0)), .int .i64 1]) (by exact results_cell_rowB Try.results10 _ _ (w.heap.size + 1) 38 (boV bo0 (.slice none 0 0)) (0, 0) _ rfl (setRow_heap _ _ _ _ _ _ M1.out.r) Try.underlying38 rfl (by rw [boV_size]; exact info30)) (by rfl) ?_
    exact nbIs_no HC.out (by decide) rfl (Go.below_setRow M1.out.be (by omega) _)
  have qh := decide_eq_true hh
  have hq : (okB l && decide (512 ≤ H ∧ H ≤ 3584)) = true := by rw [hk, qh]; rfl
  have HQ := Lib.hid hq
  clear hq hk hh
  by_cases h2 : 1024 < inp.size
  · have q2 : decide ((1024 : Int) < (inp.size : Int)) = true := decide_eq_true (by omega)
    have HC : Hid (nbCode l H inp sd = 8) := Lib.hid (by unfold nbCode; rw [if_neg h1, if_neg (by rw [HQ.out]; simp), if_pos h2])
    clear h1 h2
    go_wp2_with (refine wpList_store_row rfl 38 (.tmp 6) (.tmp 30) rfl (w.heap.size + 1) (boV bo0 (.slice none 0 0)) rfl rfl 38 _ M1.out.r (by rw [boV_size]; exact info30) rfl hO.out ?_)
    refine bodyPost_ret (v := .tuple #[.agg (boV bo0 (.slice none 0 0)), .int .i64 8]) (by exact results_cell_rowB Try.results10 _ _ (w.heap.size + 1) 38 (boV bo0 (.slice none 0 0)) (0, 0) _ rfl (setRow_heap _ _ _ _ _ _ M1.out.r) Try.underlying38 rfl (by rw [boV_size]; exact info30)) (by rfl) ?_
    exact nbIs_no HC.out (by decide) rfl (Go.below_setRow M1.out.be (by omega) _)
  have q2 : decide ((1024 : Int) < (inp.size : Int)) = false := decide_eq_false (by omega)
  go_wp2_with fail
  refine (seedI sd _).mono ?_
  rintro e wz ⟨rfl, rfl⟩
  by_cases h3 : 0 ≤ sd ∧ sd ≤ 2147483647
  rotate_left
  · have q3 := decide_eq_false h3
    have HC : Hid (nbCode l H inp sd = 4) := Lib.hid (by unfold nbCode; rw [if_neg h1, if_neg (by rw [HQ.out]; simp), if_neg h2, if_neg h3])
    clear h1 h2 h3
    go_wp2_with (refine wpList_store_row rfl 38 (.tmp 6) (.tmp 35) rfl (w.heap.size + 1) (boV bo0 (.slice none 0 0)) rfl rfl 38 _ M1.out.r (by rw [boV_size]; exact info30) rfl hO.out ?_)
    refine bodyPost_ret (v := .tuple #[.agg (boV bo0 (.slice none 0 0)), .int .i64 4]) (by exact results_cell_rowB Try.results10 _ _ (w.heap.size + 1) 38 (boV bo0 (.slice none 0 0)) (0, 0) _ rfl (setRow_heap _ _ _ _ _ _ M1.out.r) Try.underlying38 rfl (by rw [boV_size]; exact info30)) (by rfl) ?_
    exact nbIs_no HC.out (by decide) rfl (Go.below_setRow M1.out.be (by omega) _)
  have q3 := decide_eq_true h3
  have HC : Hid (nbCode l H inp sd = 0) := Lib.hid (by unfold nbCode; rw [if_neg h1, if_neg (by rw [HQ.out]; simp), if_neg h2, if_pos h3])
  clear h1 h2 h3 HQ a2
  have a1 := (cell_of_row _ _ 1 _ _ _ M1.out.a).trans (show A[1]? = some (.int .i64 E) by rw [← HA.out]; rfl)
  have hO18 := Lib.hid (cpV_one ⟨fn16 0 0 0 0 0 0 0 0 0 0 0 0 0 0 0 0, E, 0⟩)
  go_upto_region 10 with ((refine wpList_store_row rfl 33 (.tmp 8) (.tmp 38) rfl wz.heap.size (cpV ⟨fn16 0 0 0 0 0 0 0 0 0 0 0 0 0 0 0 0, E, 0⟩) rfl rfl 33 _ (heap_alloc_new wz _) (by rw [cpV_size]; exact info18) rfl hO18.out ?_; generalize hU : (wz.alloc (.cells #[.int .i64 0, .int .i64 0, .int .i64 0, .int .i64 0, .int .i64 0, .int .i64 0, .int .i64 0, .int .i64 0, .int .i64 0, .int .i64 0, .int .i64 0, .int .i64 0, .int .i64 0, .int .i64 0, .int .i64 0, .int .i64 0, .int .i64 0, .int .i64 0] 33)).setRow wz.heap.size (cpV ⟨fn16 0 0 0 0 0 0 0 0 0 0 0 0 0 0 0 0, E, 0⟩) = U))
  have U0 : Hid (NCx w U A wz.heap.size ⟨fn16 0 0 0 0 0 0 0 0 0 0 0 0 0 0 0 0, E, 0⟩) := Lib.hid (by rw [← hU]; exact NCx.new M1.out _ _)
  have BU : Hid (Below wz.heap.size wz U) := Lib.hid (by rw [← hU]; exact Go.below_setRow (below1 wz _) (Nat.le_refl _) _)
  clear hU M1 hO18 a1
  have co4 := (cell_of_row _ _ 4 _ _ _ U0.out.o).trans (show _ = some (.int .i64 0) from rfl)
  have co5 := (cell_of_row _ _ 5 _ _ _ U0.out.o).trans (show _ = some (.int .i64 0) from rfl)
  have co15 := (cell_of_row _ _ 15 _ _ _ U0.out.o).trans (show _ = some (.int .i64 0) from rfl)
  have fz (i : Nat) : U.frozen? ⟨wz.heap.size, i, none⟩ = false := by simp [World.frozen?, U0.out.o]
  go_upto_region 11 with fail
  have U3 : Hid (NCx w (((U.setCell ⟨wz.heap.size, 4, none⟩ (.int .i64 20480)).setCell ⟨wz.heap.size, 5, none⟩ (.int .i64 20480)).setCell ⟨wz.heap.size, 15, none⟩ (.int .i64 16384)) A wz.heap.size (newC E)) := Lib.hid (((U0.out.set (c' := ⟨fn16 0 0 0 0 20480 0 0 0 0 0 0 0 0 0 0 0, E, 0⟩) 4 _ rfl).set (c' := ⟨fn16 0 0 0 0 20480 20480 0 0 0 0 0 0 0 0 0 0, E, 0⟩) 5 _ rfl).set 15 _ rfl)
  have HR3 : Hid (Rd (((U.setCell ⟨wz.heap.size, 4, none⟩ (.int .i64 20480)).setCell ⟨wz.heap.size, 5, none⟩ (.int .i64 20480)).setCell ⟨wz.heap.size, 15, none⟩ (.int .i64 16384)) (some ⟨g, 0, none⟩) l) := Lib.hid (HR1.out.below (((BU.out.setCell (Nat.le_refl _) _).setCell (Nat.le_refl _) _).setCell (Nat.le_refl _) _))
  clear co4 co5 co15 fz U0 HR1 BU
  generalize ((U.setCell ⟨wz.heap.size, 4, none⟩ (.int .i64 20480)).setCell ⟨wz.heap.size, 5, none⟩ (.int .i64 20480)).setCell ⟨wz.heap.size, 15, none⟩ (.int .i64 16384) = X at *
  have HXs : Hid (w.heap.size + 2 ≤ X.heap.size) := Lib.hid (by have h1 := lt_of_blk' U3.out.o; have h2 := U3.out.n; omega)
  refine wp_region_krs 11 [fun _ v => v = .agg (cpV (newC E)), fun _ v => v = .pointer (some ⟨w.heap.size, 0, none⟩), fun _ v => v = .agg #[.slice (some ⟨g, 0, none⟩) l.length cap], MOwn (w.heap.size + 2) l, fun _ v => v = .pointer (some ⟨w.heap.size, 2, none⟩), fun _ v => v = .int .i64 H, fun _ v => v = .pointer (some ⟨w.heap.size, 2, none⟩), fun _ v => v = .int .i64 H, fun _ v => v = .string inp, fun _ v => v = .int .i64 sd, XOwn (w.heap.size + 2) l (newB E H inp sd)] hm (by rfl) (by kernel_rfl) (by kernel_rfl) (by kernel_rfl) (by kernel_rfl) (by kernel_rfl) ?_ ?_ ?_
  · intro j V hV w1 w2 v he h
    have hm := List.mem_of_getElem? hV
    simp only [List.mem_cons, List.not_mem_nil, or_false] at hm
    rcases hm with rfl | rfl | rfl | rfl | rfl | rfl | rfl | rfl | rfl | rfl | rfl
    all_goals first | exact h | exact MOwn.mono he h | exact XOwn.mono he h
  · intro i hi o V ho hV a wx he hs hd
    have hi' : i = 0 ∨ i = 1 ∨ i = 2 ∨ i = 3 ∨ i = 4 ∨ i = 5 ∨ i = 6 ∨ i = 7 ∨ i = 8 ∨ i = 9 ∨ i = 10 := by simp at hi; omega
    clear hi
    rcases hi' with rfl | rfl | rfl | rfl | rfl | rfl | rfl | rfl | rfl | rfl | rfl
    all_goals obtain rfl := Option.some.inj ho
    all_goals obtain rfl := Option.some.inj hV
    · have Ux := U3.out.call he
      rw [loadCB rfl (by show a.tmps.getD 8 undef = _; rw [Array.getD_eq_getD_getElem?, hs.2.2 8 (noDstB (by kernel_rfl))]; rfl) Ux.o (cpV_size _)]
      exact ⟨Below.refl _ _, rfl⟩
    · rw [fieldLB (.inl rfl) rfl (by show a.tmps.getD 3 undef = _; rw [Array.getD_eq_getD_getElem?, hs.2.2 3 (noDstB (by kernel_rfl))]; rfl)]
      exact ⟨Below.refl _ _, rfl⟩
    · have Ux := U3.out.call he
      rw [loadMB rfl (hd ⟨1, .data⟩ (by simp) rfl _ _ _ rfl rfl rfl) ((cell_of_row _ _ 0 _ _ _ Ux.s.a).trans (show A[0]? = some (.slice (some ⟨g, 0, none⟩) l.length cap) by rw [← HA.out]; rfl))]
      exact ⟨Below.refl _ _, rfl⟩
    · have e47 : a.eval (.tmp 47) = .agg #[.slice (some ⟨g, 0, none⟩) l.length cap] := hd ⟨2, .data⟩ (by simp) rfl _ _ _ rfl rfl rfl
      refine callKB (vals := #[.agg #[.slice (some ⟨g, 0, none⟩) l.length cap]]) rfl (by simp only [List.map_toArray, List.map_cons, List.map_nil, e47]; try rfl) (by go_simp) ((CO.out wx (HR3.out.below he)).mono ?_)
      rintro e w' ⟨p, c, rfl, h1, h2⟩
      exact ⟨_, rfl, h2, p, c, rfl, Joins.ownsRow_le h1 (Nat.le_trans HXs.out he.size)⟩
    · rw [fieldLB (.inr rfl) rfl (by show a.tmps.getD 3 undef = _; rw [Array.getD_eq_getD_getElem?, hs.2.2 3 (noDstB (by kernel_rfl))]; rfl)]
      exact ⟨Below.refl _ _, rfl⟩
    · have Ux := U3.out.call he
      rw [loadIB' rfl (hd ⟨4, .data⟩ (by simp) rfl _ _ _ rfl rfl rfl) ((cell_of_row _ _ 2 _ _ _ Ux.s.a).trans (show A[2]? = some (.int .i64 H) by rw [← HA.out]; rfl))]
      exact ⟨Below.refl _ _, rfl⟩
    · rw [fieldLB (.inr rfl) rfl (by show a.tmps.getD 3 undef = _; rw [Array.getD_eq_getD_getElem?, hs.2.2 3 (noDstB (by kernel_rfl))]; rfl)]
      exact ⟨Below.refl _ _, rfl⟩
    · have Ux := U3.out.call he
      rw [loadIB' rfl (hd ⟨6, .data⟩ (by simp) rfl _ _ _ rfl rfl rfl) ((cell_of_row _ _ 2 _ _ _ Ux.s.a).trans (show A[2]? = some (.int .i64 H) by rw [← HA.out]; rfl))]
      exact ⟨Below.refl _ _, rfl⟩
    · rw [moveB (k := 1) (v := .string inp) rfl (by rw [Array.getD_eq_getD_getElem?, hs.2.2 1 (noDstB (by kernel_rfl))]; rfl)]
      exact ⟨Below.refl _ _, rfl⟩
    · rw [moveB (k := 2) (v := .int .i64 sd) rfl (by rw [Array.getD_eq_getD_getElem?, hs.2.2 2 (noDstB (by kernel_rfl))]; rfl)]
      exact ⟨Below.refl _ _, rfl⟩
    · obtain ⟨p, c, e48, h1⟩ : MOwn (w.heap.size + 2) l wx (a.eval (.tmp 48)) := hd ⟨3, .data⟩ (by simp) rfl _ _ _ rfl rfl rfl
      rw [buildBB rfl (hd ⟨0, .data⟩ (by simp) rfl _ _ _ rfl rfl rfl) e48 (hd ⟨5, .data⟩ (by simp) rfl _ _ _ rfl rfl rfl) (hd ⟨7, .data⟩ (by simp) rfl _ _ _ rfl rfl rfl) (hd ⟨8, .data⟩ (by simp) rfl _ _ _ rfl rfl rfl) (hd ⟨9, .data⟩ (by simp) rfl _ _ _ rfl rfl rfl)]
      exact ⟨Below.refl _ _, p, c, rfl, h1⟩
  intro a w7 he hs hh
  obtain ⟨p, cp, e55, own⟩ : XOwn (w.heap.size + 2) l (newB E H inp sd) w7 (a.tmps.getD 55 undef) := hh 10 (by simp) _ _ _ rfl rfl rfl
  have ea := same_litL hs [45, 46, 47, 48, 49, 50, 51, 52, 53, 54, 55, 7] (by kernel_rfl) _ rfl
  simp only [List.foldl_cons, List.foldl_nil, List.set_cons_succ, List.set_cons_zero] at ea
  rw [e55] at ea
  generalize a.tmps.getD 45 undef = x45 at ea
  generalize a.tmps.getD 46 undef = x46 at ea
  generalize a.tmps.getD 47 undef = x47 at ea
  generalize a.tmps.getD 48 undef = x48 at ea
  generalize a.tmps.getD 49 undef = x49 at ea
  generalize a.tmps.getD 50 undef = x50 at ea
  generalize a.tmps.getD 51 undef = x51 at ea
  generalize a.tmps.getD 52 undef = x52 at ea
  generalize a.tmps.getD 53 undef = x53 at ea
  generalize a.tmps.getD 54 undef = x54 at ea
  generalize a.tmps.getD 7 undef = x7 at ea
  clear hh hs e55
  subst ea
  have U7 := Lib.hid (U3.out.call he)
  have OW := Lib.hid own
  have hO5 := Lib.hid (boV_one (newB E H inp sd) p l.length cp)
  have sz := boV_size (newB E H inp sd) (.slice p l.length cp)
  clear own he U3 HR3 CO HXs
  generalize hV2 : boV (newB E H inp sd) (.slice p l.length cp) = V2 at *
  have HV2 := Lib.hid hV2
  have SZ2 := Lib.hid sz
  clear sz hV2
  have Y5 := Lib.hid (setRow_heap _ _ _ V2 _ _ U7.out.s.r)
  have D5 := Lib.hid (Go.below_setRow U7.out.s.be (by omega : w.heap.size ≤ w.heap.size + 1) V2)
  have O5 : Hid (Owns (w7.setRow (w.heap.size + 1) V2) w.heap.size p cp l) := Lib.hid (Joins.ownsRow_le (OW.out.kept2 (fun j e => setRow_far _ _ _ _ (by have := (OW.out.lt j (by rw [e]; rfl)).1; omega))) (by omega))
  simp only [List.drop_succ_cons, List.drop_zero, wpTail]
  refine wp_store_row 38 (.tmp 6) (.tmp 55) rfl (w.heap.size + 1) V2 rfl rfl 38 _ U7.out.s.r (by rw [SZ2.out]; exact info30) (by rw [SZ2.out]; rfl) hO5.out ?_
  go_step
  go_wp2
  refine bodyPost_ret (v := .tuple #[.agg V2, .int .i64 0]) (by exact results_cell_rowB Try.results10 _ _ (w.heap.size + 1) 38 V2 (0, 0) _ rfl Y5.out Try.underlying38 rfl (by rw [SZ2.out]; exact info30)) (by rfl) ?_
  exact nbIs_yes HC.out (by rw [HV2.out]) O5.out D5.out
end Go.Proofs.Ytcnmklgcifdmoaa
