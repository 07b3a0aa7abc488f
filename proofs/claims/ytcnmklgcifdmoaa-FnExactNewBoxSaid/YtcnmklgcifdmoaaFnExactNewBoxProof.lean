/-
  Proved: for every loaded thing (pages, numbers, a report of three lists), text and number, laws.FnExactNewBox returns true (impl.NewBox answers as spec.NewBox, every field and every page and the code, its answer owns its memory, and it leaves its argument as it was), with no condition.
-/
import Derived.Test.YtcnmklgcifdmoaaRows
import Derived.WalkKit
import Derived.ProofKit
import Derived.OpenShut
import Derived.ShutString
import Derived.Test.YtcnmklgcifdmoaaWalkBoxN
import Derived.Test.YtcnmklgcifdmoaaWalkBoxM
import Derived.Deep.RegionHeld3
import Derived.ChangeOld
import Derived.Below
import Derived.Test.YtcnmklgcifdmoaaOpenLd
namespace Go.Proofs.Ytcnmklgcifdmoaa.fnExactNewBox
open Go.ChangeShapes Go.WideShapes Go.ChangeAt Go.RowKit
open Go.ChangeMaps (open_string shut_string)
set_option linter.unusedVariables false

theorem own : ownKnob Try.prog.godebug = none := by kernel_rfl
theorem laidOut : laidOutB Try.prog = true := by kernel_rfl

theorem loadLd {W : World} {b : Nat} {V : Array Value} (h : W.heap[b]? = some (.cells V 29 (0, 0))) (hV : V.size = 9) : (Instr.loadAt 29 (.pointer (some ⟨b, 0, none⟩))).run Try.prog W = .ok (.agg V) W := by
  simp only [Instr.loadAt, Instr.sureAddr, Sem.run_bind, Sem.run_pure, Result.andThen_ok]
  exact run_loadVar_row W b 29 29 V (0, 0) _ h Try.underlying29 rfl (by rw [hV]; kernel_rfl)
theorem loadId {W : World} {b : Nat} {V : Array Value} (h : W.heap[b]? = some (.cells V 43 (0, 0))) (hV : V.size = 9) : (Instr.loadAt 43 (.pointer (some ⟨b, 0, none⟩))).run Try.prog W = .ok (.agg V) W := by
  simp only [Instr.loadAt, Instr.sureAddr, Sem.run_bind, Sem.run_pure, Result.andThen_ok]
  exact run_loadVar_row W b 43 43 V (0, 0) _ h Try.underlying43 rfl (by rw [hV]; kernel_rfl)
theorem load_rowB {P : Program} {ops : Array Oper} {rest : List Oper} {o : Oper} {a : Act} {w : World} {Q : Exit → Act → World → Prop} (hw : Region.wanted o (yielded ops a.tmps) = true) (ty : TypeId) (x : Operand) (ho : o.op = .load ty x)
    (g : Nat) (hx : a.eval x = .pointer (some ⟨g, 0, none⟩)) (t : TypeId) (cs : Array Value) (fr : Nat × Nat) (d : TypeDesc) (hg : w.heap[g]? = some (.cells cs t fr))
    (hu : P.underlying ty = some d) (hd : (match d with | .struct _ | .array _ _ => true | _ => false) = true) (hi : (P.info? ty).map (·.size) = some cs.size)
    (h : wpList P ops Q rest (a.put o.dst (.agg cs)) w) : wpList P ops Q (o :: rest) a w :=
  wpList_step fun K hK => by rw [if_pos hw]; exact wp_load_row ty x ho g hx t cs fr d hg hu hd hi (hK _ _ h)
/-- the law's argument -/
structure NL (w : World) (V : Array Value) (q qa qb qc : Option Addr) (l : List Pg) (La Lb Lc : List Int) (W : World) : Prop where
  a : W.heap[w.heap.size]? = some (.cells V 29 (0, 0))
  r : Rd W q l
  k : ∀ b o, q = some ⟨b, o, none⟩ → l ≠ [] → 0 ≤ b ∧ b < w.heap.size
  ra : RdA W qa La
  rb : RdA W qb Lb
  rc : RdA W qc Lc
  ka : La = [] ∨ ∃ b o, qa = some ⟨b, o, none⟩ ∧ b < w.heap.size
  kb : Lb = [] ∨ ∃ b o, qb = some ⟨b, o, none⟩ ∧ b < w.heap.size
  kc : Lc = [] ∨ ∃ b o, qc = some ⟨b, o, none⟩ ∧ b < w.heap.size
  be : Below w.heap.size w W
theorem NL.call {w W W' : World} {V : Array Value} {q qa qb qc : Option Addr} {l : List Pg} {La Lb Lc : List Int} (h : NL w V q qa qb qc l La Lb Lc W) (hb : Below W.heap.size W W') : NL w V q qa qb qc l La Lb Lc W' :=
  ⟨(hb.block _ (lt_of_blk' h.a)).trans h.a, h.r.below hb, h.k, h.ra.below hb, h.rb.below hb, h.rc.below hb, h.ka, h.kb, h.kc, h.be.trans (hb.mono h.be.size)⟩
theorem rdA_kept {w w' : World} {n : Nat} {p : Option Addr} {L : List Int} (h : RdA w p L) (hs : w.heap.size ≤ w'.heap.size) (hk : L = [] ∨ ∃ b o, p = some ⟨b, o, none⟩ ∧ b < n) (hb : ∀ k, k < n → k < w.heap.size → w'.heap[k]? = w.heap[k]?) : RdA w' p L := by
  refine ⟨?_, h.2⟩
  rcases h.1 with h1 | ⟨b, o, e, hlt, hc⟩
  · exact .inl h1
  · rcases hk with h1 | ⟨b', o', e', hlt'⟩
    · exact .inl h1
    · rw [e] at e'
      cases e'
      exact .inr ⟨b, o, e, by omega, fun k z hz => (World.cell?_of_block (a := ⟨b, _, none⟩) (hb b hlt' hlt)).trans (hc k z hz)⟩
theorem NL.keep {w W W' : World} {V : Array Value} {q qa qb qc : Option Addr} {l : List Pg} {La Lb Lc : List Int} {a b : Nat} (h : NL w V q qa qb qc l La Lb Lc W) (hk : Keep a b W W') (hd : w.heap.size < a) : NL w V q qa qb qc l La Lb Lc W' := by
  have kb : ∀ k, k < w.heap.size → k < W.heap.size → W'.heap[k]? = W.heap[k]? := fun k h1 h2 => hk.block k h2 (.inl (by omega))
  refine ⟨(hk.block _ (lt_of_blk' h.a) (.inl hd)).trans h.a, h.r.kept hk.size (fun j o e hl hj => kb j (h.k j o e hl).2 hj), h.k, rdA_kept h.ra hk.size h.ka kb, rdA_kept h.rb hk.size h.kb kb, rdA_kept h.rc hk.size h.kc kb, h.ka, h.kb, h.kc, Keep.below h.be hk (by omega)⟩
theorem nbL_small {l : List Pg} (c : Int) (h : Small l) : Small (nbL c l) := by
  unfold nbL
  split
  · exact h
  · exact ⟨by simp, fun k x hx => by simp at hx⟩
attribute [-go_sem] Instr.loadAt in
set_option maxRecDepth 100000 in
set_option maxHeartbeats 16000000 in
theorem both (E H T S : Int) (q : Option Addr) (c : Nat) (l : List Pg) (qa qb qc : Option Addr) (La Lb Lc : List Int) (pa pb pc : Nat) (n : Int) (inp : ByteArray) (sd : Int) (w : World) (r0 : Rd w q l) (f0 : Fits l) (ra : RdA w qa La) (rb : RdA w qb Lb) (rc : RdA w qc Lc) (hi : inp.size ≤ maxLen) :
    Calls Try.prog 3 #[.agg (ldV (.slice q l.length c) E H T S (.slice qa La.length pa) (.slice qb Lb.length pb) (.slice qc Lc.length pc) n), .string inp, .int .i64 sd] w fun e w' => e = .returned (.bool true) ∧ Below w.heap.size w w' := by
  have hm := mixed
  have hmx : inp.size ≤ 9223372036854775807 := hi
  have hbk := rd_blk r0
  have N0 : NL w (ldV (.slice q l.length c) E H T S (.slice qa La.length pa) (.slice qb Lb.length pb) (.slice qc Lc.length pc) n) q qa qb qc l La Lb Lc (w.alloc (.cells (ldV (.slice q l.length c) E H T S (.slice qa La.length pa) (.slice qb Lb.length pb) (.slice qc Lc.length pc) n) 29)) := by
    have b0 := below1 w (.cells (ldV (.slice q l.length c) E H T S (.slice qa La.length pa) (.slice qb Lb.length pb) (.slice qc Lc.length pc) n) 29)
    have hk : ∀ {p : Option Addr} {L : List Int}, RdA w p L → L = [] ∨ ∃ b o, p = some ⟨b, o, none⟩ ∧ b < w.heap.size := fun h => h.1.imp id (fun ⟨b, o, e, hlt, _⟩ => ⟨b, o, e, hlt⟩)
    exact ⟨heap_alloc_new w _, r0.below b0, hbk, ra.below b0, rb.below b0, rc.below b0, hk ra, hk rb, hk rc, b0⟩
  have CZ := Lib.hid (fun W hR => szLoC q c l E H T S qa qb qc La Lb Lc pa pb pc n W hR f0 ra.2 rb.2 rc.2)
  have CT := Lib.hid (fun W hR hs h1 h2 h3 hn => toLoC q c l E H T S qa qb qc La Lb Lc pa pb pc n W hR hs h1 h2 h3 hn)
  have CS := Lib.hid (fun g x0 x1 x2 hx hn W hR => newS g l.length l E H T S x0 x1 x2 hx n inp sd W hi f0 hn hR)
  have CI := Lib.hid (fun g x0 x1 x2 hs W hR => newI g l.length l E H T S x0 x1 x2 n inp sd W hi hs hR)
  have CE := Lib.hid (fun g g' W hr hq a0 a1 a2 b0 b1 b2 u0 u1 u2 v0 v1 v2 => eqLoC (some ⟨g, 0, none⟩) (some ⟨g', 0, none⟩) l.length l.length l E H T S (some ⟨a0, 0, none⟩) (some ⟨a1, 0, none⟩) (some ⟨a2, 0, none⟩) (some ⟨b0, 0, none⟩) (some ⟨b1, 0, none⟩) (some ⟨b2, 0, none⟩) La Lb Lc La.length Lb.length Lc.length La.length Lb.length Lc.length n W f0.1 hr hq u0 u1 u2 v0 v1 v2 ra.2 rb.2 rc.2)
  have CM := Lib.hid (fun g a0 a1 a2 B W hs ho z0 z1 z2 hg h01 h12 hn => markLoC g a0 a1 a2 B l E H T S La Lb Lc n W hs ho z0 z1 z2 hg h01 h12 hn)
  have sv : (ldV (.slice q l.length c) E H T S (.slice qa La.length pa) (.slice qb Lb.length pb) (.slice qc Lc.length pc) n).size = 9 := rfl
  have N0' := Lib.hid N0
  clear r0 f0 ra rb rc N0 hbk
  generalize ldV (.slice q l.length c) E H T S (.slice qa La.length pa) (.slice qb Lb.length pb) (.slice qc Lc.length pc) n = V at *
  have SV := Lib.hid sv
  have I9 := Lib.hid (show (Try.prog.info? 29).map (·.size) = some 9 by kernel_rfl)
  have J9 := Lib.hid (show (Try.prog.info? 43).map (·.size) = some 9 by kernel_rfl)
  clear sv hi
  go_enter Try.func3, Try.ntmps3
  by_cases hlen : 1048576 < inp.size
  · have qlen : decide ((1048576 : Int) < (inp.size : Int)) = true := decide_eq_true (by omega)
    clear hlen
    go_wp2
    go_ret
    exact ⟨rfl, N0'.out.be⟩
  have qlen : decide ((1048576 : Int) < (inp.size : Int)) = false := decide_eq_false (by omega)
  clear hlen
  go_wp2_with (refine wpList_load_row rfl 29 (.tmp 3) rfl w.heap.size rfl 29 V (0, 0) _ N0'.out.a Try.underlying29 rfl (by rw [SV.out]; exact I9.out) ?_)
  refine (CZ.out _ N0'.out.r).mono ?_
  rintro e w1 ⟨r, rfl, HQ, b1⟩
  have N1 := Lib.hid (N0'.out.call b1)
  clear b1 N0' CZ
  by_cases hneg : r < 0
  · go_wp2
    go_ret
    exact ⟨rfl, N1.out.be⟩
  have hd : decide (r < 0) = false := decide_eq_false hneg
  have HS := Lib.hid (HQ.out.2.2 (by omega))
  clear hneg HQ
  go_wp2_with (refine wpList_load_row rfl 29 (.tmp 3) rfl w.heap.size rfl 29 V (0, 0) _ N1.out.a Try.underlying29 rfl (by rw [SV.out]; exact I9.out) ?_)
  refine (CT.out _ N1.out.r HS.out.1 N1.out.ra N1.out.rb N1.out.rc HS.out.2).mono ?_
  rintro e w2 ⟨g2, x0, x1, x2, rfl, o2, _, _, _, _, _, _, _, _, b2⟩
  have N2 := Lib.hid (N1.out.call b2)
  have R2 := Lib.hid (owns_rd o2)
  clear b2 o2 N1
  go_wp2_with fail
  refine (CS.out g2 _ _ _ (by intro i hi; simp at hi; rcases hi with rfl | rfl | rfl <;> rfl) HS.out.1.1 w2 R2.out).mono ?_
  rintro e w3 ⟨p3, c3, rfl, o3, b3⟩
  clear CS R2
  have SML := Lib.hid (nbL_small (nbCode l H inp sd) HS.out.1)
  generalize nbL (nbCode l H inp sd) l = LL at *
  generalize nbB (nbCode l H inp sd) E H inp sd = nb at *
  generalize nbCode l H inp sd = cc at *
  have N3 := Lib.hid (N2.out.call b3)
  have O3 := Lib.hid o3
  have HZ3 := Lib.hid b3.size
  have HWL : Hid (w.heap.size < w2.heap.size) := Lib.hid (lt_of_blk' N2.out.a)
  have hX3 := Lib.hid (boV_one nb p3 LL.length c3)
  have s3 : (boV nb (.slice p3 LL.length c3)).size = 30 := rfl
  obtain ⟨X3, eX3⟩ : ∃ X, boV nb (.slice p3 LL.length c3) = X := ⟨_, rfl⟩
  have EX3 := Lib.hid eX3
  rw [eX3] at hX3 s3 ⊢
  have S3 := Lib.hid s3
  clear eX3 s3 o3 b3
  go_upto_region 8 with (first | (refine wpList_store_row rfl 38 (.tmp 8) (.tmp 32) rfl w3.heap.size X3 rfl rfl 38 _ (heap_alloc_new w3 _) (by rw [S3.out]; exact info30) (by rw [S3.out]; rfl) hX3.out ?_; generalize hU : (w3.alloc (.cells #[.int .i64 0, .int .i64 0, .int .i64 0, .int .i64 0, .int .i64 0, .int .i64 0, .int .i64 0, .int .i64 0, .int .i64 0, .int .i64 0, .int .i64 0, .int .i64 0, .int .i64 0, .int .i64 0, .int .i64 0, .int .i64 0, .int .i64 0, .int .i64 0, .slice none 0 0, .int .i64 0, .int .i64 0, .string ⟨#[]⟩, .int .i64 0, .string ⟨#[]⟩, .int .i64 0, .int .i64 0, .int .i64 0, .int .i64 0, .int .i64 0, .int .i64 0] 38)).setRow w3.heap.size X3 = U8))
  have bU : Below w3.heap.size w3 U8 := by rw [← hU]; exact below_var _ _ _ _
  have zU : U8.heap.size = w3.heap.size + 1 := by rw [← hU]; exact size_var _ _ _ _
  have Y8 : Hid (BX 38 w3.heap.size X3 p3 LL w2.heap.size (w3.heap.size + 1) U8) := Lib.hid (by rw [← hU]; exact BX.new O3.out HZ3.out)
  have N8 := Lib.hid (N3.out.call bU)
  have ZU := Lib.hid zU
  clear hU bU zU N3 O3 N2 hX3
  go_wp2_with (refine wpList_load_row rfl 29 (.tmp 3) rfl w.heap.size rfl 29 V (0, 0) _ N8.out.a Try.underlying29 rfl (by rw [SV.out]; exact I9.out) ?_)
  refine (CT.out _ N8.out.r HS.out.1 N8.out.ra N8.out.rb N8.out.rc HS.out.2).mono ?_
  rintro e w4 ⟨g4, a0, a1, a2, rfl, o4, z0, z1, z2, hg, hg0, h01, h12, h2, b4⟩
  have N4 := Lib.hid (N8.out.call b4)
  have Y4 := Lib.hid (Y8.out.below b4)
  have O4 := Lib.hid o4; have Z0 := Lib.hid z0; have Z1 := Lib.hid z1; have Z2 := Lib.hid z2
  have HG : Hid (w3.heap.size + 1 ≤ g4 ∧ g4 < a0 ∧ a0 < a1 ∧ a1 < a2 ∧ a2 < w4.heap.size) := Lib.hid ⟨by have := ZU.out; omega, hg0, h01, h12, h2⟩
  have hX4 := Lib.hid (ldV_one (some ⟨g4, 0, none⟩) (some ⟨a0, 0, none⟩) (some ⟨a1, 0, none⟩) (some ⟨a2, 0, none⟩) l.length La.length Lb.length Lc.length l.length La.length Lb.length Lc.length E H T S n)
  have s4 := ldV_size (.slice (some ⟨g4, 0, none⟩) l.length l.length) E H T S (.slice (some ⟨a0, 0, none⟩) La.length La.length) (.slice (some ⟨a1, 0, none⟩) Lb.length Lb.length) (.slice (some ⟨a2, 0, none⟩) Lc.length Lc.length) n
  have C4 := Lib.hid (fun W hR => CI.out g4 (.slice (some ⟨a0, 0, none⟩) La.length La.length) (.slice (some ⟨a1, 0, none⟩) Lb.length Lb.length) (.slice (some ⟨a2, 0, none⟩) Lc.length Lc.length) HS.out.1 W hR)
  have CE4 := Lib.hid (fun g' b0 b1 b2 W hr hq u0 u1 u2 v0 v1 v2 => CE.out g4 g' W hr hq a0 a1 a2 b0 b1 b2 u0 u1 u2 v0 v1 v2)
  have CM4 := Lib.hid (fun B W ho y0 y1 y2 => CM.out g4 a0 a1 a2 B W HS.out.1 ho y0 y1 y2 hg0 h01 h12 HS.out.2)
  clear o4 z0 z1 z2 hg hg0 h01 h12 h2 b4 N8 Y8 CE CM
  generalize hX4e : ldV (.slice (some ⟨g4, 0, none⟩) l.length l.length) E H T S (.slice (some ⟨a0, 0, none⟩) La.length La.length) (.slice (some ⟨a1, 0, none⟩) Lb.length Lb.length) (.slice (some ⟨a2, 0, none⟩) Lc.length Lc.length) n = X4 at hX4 s4 C4 CE4 CM4 ⊢
  have S4 := Lib.hid s4
  clear hX4e s4
  go_upto_region 9 with (first | (refine wpList_store_row rfl 43 (.tmp 10) (.tmp 35) rfl w4.heap.size X4 rfl rfl 43 _ (heap_alloc_new w4 _) (by rw [S4.out]; exact J9.out) (by rw [S4.out]; rfl) hX4.out ?_; generalize hU : (w4.alloc (.cells #[.slice none 0 0, .int .i64 0, .int .i64 0, .int .i64 0, .int .i64 0, .slice none 0 0, .slice none 0 0, .slice none 0 0, .int .i64 0] 43)).setRow w4.heap.size X4 = U10))
  have bU : Below w4.heap.size w4 U10 := by rw [← hU]; exact below_var _ _ _ _
  have zU : U10.heap.size = w4.heap.size + 1 := by rw [← hU]; exact size_var _ _ _ _
  have xU : U10.heap[w4.heap.size]? = some (.cells X4 43 (0, 0)) := by rw [← hU]; exact setRow_heap _ _ _ _ _ _ (heap_alloc_new w4 _)
  have N10 := Lib.hid (N4.out.call bU); have Y10 := Lib.hid (Y4.out.below bU); have X10 := Lib.hid xU; have ZU10 := Lib.hid zU
  have O10 := Lib.hid (own_below O4.out bU); have Z010 := Lib.hid (Z0.out.below bU); have Z110 := Lib.hid (Z1.out.below bU); have Z210 := Lib.hid (Z2.out.below bU)
  clear hU bU zU xU N4 Y4 O4 Z0 Z1 Z2 hX4
  go_wp2_with (refine wpList_load_row rfl 43 (.tmp 10) rfl w4.heap.size rfl 43 X4 (0, 0) _ X10.out Try.underlying43 rfl (by rw [S4.out]; exact J9.out) ?_)
  refine (C4.out U10 (owns_rd O10.out)).mono ?_
  rintro e w5 ⟨p5, c5, rfl, o5, b5⟩
  clear C4
  have N5 := Lib.hid (N10.out.call b5); have Y5 := Lib.hid (Y10.out.below b5); have XR5 := Lib.hid ((b5.block _ (lt_of_blk' X10.out)).trans X10.out)
  have O5 := Lib.hid (own_below O10.out b5); have Z05 := Lib.hid (Z010.out.below b5); have Z15 := Lib.hid (Z110.out.below b5); have Z25 := Lib.hid (Z210.out.below b5)
  have W5 := Lib.hid o5
  have W5B : Hid (∀ j, (Value.slice p5 LL.length c5).ownBlock = some j → U10.heap.size ≤ j ∧ j < w5.heap.size) := Lib.hid (fun j e => own_row o5 e)
  have HZ5 := Lib.hid b5.size
  have hX5 := Lib.hid (boV_one nb p5 LL.length c5)
  have s5 : (boV nb (.slice p5 LL.length c5)).size = 30 := rfl
  obtain ⟨X5, eX5⟩ : ∃ X, boV nb (.slice p5 LL.length c5) = X := ⟨_, rfl⟩
  have EX5 := Lib.hid eX5
  rw [eX5] at hX5 s5 ⊢
  have S5 := Lib.hid s5
  clear eX5 s5 o5 b5 N10 Y10 X10 O10 Z010 Z110 Z210
  go_upto_region 10 with (first | (refine wpList_store_row rfl 38 (.tmp 11) (.tmp 41) rfl w5.heap.size X5 rfl rfl 38 _ (heap_alloc_new w5 _) (by rw [S5.out]; exact info30) (by rw [S5.out]; rfl) hX5.out ?_; generalize hU : (w5.alloc (.cells #[.int .i64 0, .int .i64 0, .int .i64 0, .int .i64 0, .int .i64 0, .int .i64 0, .int .i64 0, .int .i64 0, .int .i64 0, .int .i64 0, .int .i64 0, .int .i64 0, .int .i64 0, .int .i64 0, .int .i64 0, .int .i64 0, .int .i64 0, .int .i64 0, .slice none 0 0, .int .i64 0, .int .i64 0, .string ⟨#[]⟩, .int .i64 0, .string ⟨#[]⟩, .int .i64 0, .int .i64 0, .int .i64 0, .int .i64 0, .int .i64 0, .int .i64 0] 38)).setRow w5.heap.size X5 = U11))
  have bU : Below w5.heap.size w5 U11 := by rw [← hU]; exact below_var _ _ _ _
  have zU : U11.heap.size = w5.heap.size + 1 := by rw [← hU]; exact size_var _ _ _ _
  have A11 : Hid (BX 38 w5.heap.size X5 p5 LL U10.heap.size (w5.heap.size + 1) U11) := Lib.hid (by rw [← hU]; exact BX.new W5.out HZ5.out)
  have N11 := Lib.hid (N5.out.call bU); have Y11 := Lib.hid (Y5.out.below bU); have X11 := Lib.hid ((bU.block _ (lt_of_blk' XR5.out)).trans XR5.out)
  have O11 := Lib.hid (own_below O5.out bU); have Z011 := Lib.hid (Z05.out.below bU); have Z111 := Lib.hid (Z15.out.below bU); have Z211 := Lib.hid (Z25.out.below bU)
  have W11 : Hid (Owns U11 U10.heap.size p5 c5 LL) := Lib.hid (own_below W5.out bU)
  clear hU bU N5 Y5 XR5 O5 Z05 Z15 Z25 W5 hX5
  have HSL := Lib.hid SML.out.fits
  have CQ : Hid (∀ W, Rd W p5 LL → Rd W p3 LL → Calls Try.prog 11 #[.agg X5, .agg X3] W fun e w' => e = .returned (.bool true) ∧ Below W.heap.size W w') := Lib.hid (fun W h1 h2 => by
    have := eqBoxC nb p5 p3 c5 c3 LL W HSL.out.1 h1 h2
    rw [EX5.out, EX3.out] at this
    exact this)
  go_wp2_with (first | (refine wpList_load_row rfl 38 (.tmp 11) rfl w5.heap.size rfl 38 X5 (0, 0) _ A11.out.x Try.underlying38 rfl (by rw [S5.out]; exact info30) ?_) | (refine wpList_load_row rfl 38 (.tmp 8) rfl w3.heap.size rfl 38 X3 (0, 0) _ Y11.out.x Try.underlying38 rfl (by rw [S3.out]; exact info30) ?_))
  refine (CQ.out _ A11.out.r Y11.out.r).mono ?_
  rintro e w6 ⟨rfl, b6⟩
  have m6 : NL w V q qa qb qc l La Lb Lc w6 ∧ w6.heap[w4.heap.size]? = some (.cells X4 43 (0, 0)) := ⟨N11.out.call b6, (b6.block _ (lt_of_blk' X11.out)).trans X11.out⟩
  have b7 : Below U11.heap.size U11 w6.drew := bthen b6 (below_drew1 w6)
  have m7 : NL w V q qa qb qc l La Lb Lc w6.drew ∧ w6.drew.heap[w4.heap.size]? = some (.cells X4 43 (0, 0)) := ⟨N11.out.call b7, (b7.block _ (lt_of_blk' X11.out)).trans X11.out⟩
  have A7 := Lib.hid (A11.out.below b7); have Y7 := Lib.hid (Y11.out.below b7); have O7 := Lib.hid (own_below O11.out b7); have Z07 := Lib.hid (Z011.out.below b7); have Z17 := Lib.hid (Z111.out.below b7); have Z27 := Lib.hid (Z211.out.below b7); have W7 := Lib.hid (own_below W11.out b7)
  have N7 := Lib.hid m7.1
  have C7 := Lib.hid (CT.out w6.drew N7.out.r HS.out.1 N7.out.ra N7.out.rb N7.out.rc HS.out.2)
  have HLt : ∀ u, (NL w V q qa qb qc l La Lb Lc u ∧ u.heap[w4.heap.size]? = some (.cells X4 43 (0, 0))) → (Instr.loadAt 29 (.pointer (some ⟨w.heap.size, 0, none⟩))).run Try.prog u = .ok (.agg V) u := fun u h => loadLd h.1.a SV.out
  have HLi : ∀ u, (NL w V q qa qb qc l La Lb Lc u ∧ u.heap[w4.heap.size]? = some (.cells X4 43 (0, 0))) → (Instr.loadAt 43 (.pointer (some ⟨w4.heap.size, 0, none⟩))).run Try.prog u = .ok (.agg X4) u := fun u h => loadId h.2 S4.out
  clear b6 b7 N11 X11 A11 Y11 O11 Z011 Z111 Z211 W11
  go_wp2_with fail
  go_region_held3 (fun W' => NL w V q qa qb qc l La Lb Lc W' ∧ W'.heap[w4.heap.size]? = some (.cells X4 43 (0, 0))) (first | (with_reducible exact m6) | (with_reducible exact m7) | (with_reducible exact m8) | (with_reducible exact m9) | go_keep) (first | (go_at_call 9; (with_reducible refine Calls.mono (C7.out) ?_); rintro e w8 ⟨g8, y0, y1, y2, rfl, o8, u0, u1, u2, _, _, _, _, _, b8⟩; have m8 : NL w V q qa qb qc l La Lb Lc w8 ∧ w8.heap[w4.heap.size]? = some (.cells X4 43 (0, 0)) := ⟨N7.out.call b8, (b8.block _ (lt_of_blk' m7.2)).trans m7.2⟩; have N8 := Lib.hid m8; have A8 := Lib.hid (A7.out.below b8); have Y8 := Lib.hid (Y7.out.below b8); have O8 := Lib.hid (own_below O7.out b8); have Z08 := Lib.hid (Z07.out.below b8); have Z18 := Lib.hid (Z17.out.below b8); have Z28 := Lib.hid (Z27.out.below b8); have W8 := Lib.hid (own_below W7.out b8); have C8 := Lib.hid (CE4.out g8 y0 y1 y2 w8 (owns_rd O8.out) (owns_rd o8) Z08.out.rd Z18.out.rd Z28.out.rd u0.rd u1.rd u2.rd); clear o8 u0 u1 u2 b8) | (go_at_call 12; (with_reducible refine Calls.mono (C8.out) ?_); rintro e w9 ⟨rfl, b9⟩; have m9 : NL w V q qa qb qc l La Lb Lc w9 ∧ w9.heap[w4.heap.size]? = some (.cells X4 43 (0, 0)) := ⟨N8.out.1.call b9, (b9.block _ (lt_of_blk' N8.out.2)).trans N8.out.2⟩; have N9 := Lib.hid m9; have A9 := Lib.hid (A8.out.below b9); have Y9 := Lib.hid (Y8.out.below b9); have O9 := Lib.hid (own_below O8.out b9); have Z09 := Lib.hid (Z08.out.below b9); have Z19 := Lib.hid (Z18.out.below b9); have Z29 := Lib.hid (Z28.out.below b9); have W9 := Lib.hid (own_below W8.out b9); clear b9))
  clear m6 m7 m8 m9 HLt HLi C7 C8 N7 A7 Y7 O7 Z07 Z17 Z27 W7 N8 A8 Y8 O8 Z08 Z18 Z28 W8 CE4
  go_wp2_with (refine wpList_load_row rfl 43 (.tmp 10) rfl w4.heap.size rfl 43 X4 (0, 0) _ N9.out.2 Try.underlying43 rfl (by rw [S4.out]; exact J9.out) ?_)
  refine (CM4.out _ w9 O9.out Z09.out Z19.out Z29.out).mono ?_
  rintro e wa ⟨⟨J, rfl⟩, ka⟩
  have hg := HG.out; have hz := ZU10.out; have hlw := lt_of_blk' N9.out.1.a; have hbk := Y9.out.n1; have hbe := HZ3.out
  have hw2 : w.heap.size < g4 := by have := HZ3.out; have := HWL.out; omega
  have Na := Lib.hid (N9.out.1.keep ka hw2)
  have Aa := Lib.hid (A9.out.keep ka (.inr (by omega))); have Ya := Lib.hid (Y9.out.keep ka (.inl (by omega)))
  have Wa : Hid (Owns wa U10.heap.size p5 c5 LL) := Lib.hid (Owns.kept2 (show Owns w9 U10.heap.size p5 c5 LL from W9.out) (fun j e => by
    have hj := own_row (show Owns w9 U10.heap.size p5 c5 LL from W9.out) (k := j) (by rw [e]; rfl)
    exact ka.block j hj.2 (.inr (by omega))))
  have qJ : decide ((J : Int) < 0) = false := decide_eq_false (by omega)
  clear ka hg hz hlw hbk hbe hw2 N9 A9 Y9 O9 Z09 Z19 Z29 W9 CM4
  go_wp2_with (first | (refine load_rowB rfl 38 (.tmp 11) rfl w5.heap.size rfl 38 X5 (0, 0) _ Aa.out.x Try.underlying38 rfl (by rw [S5.out]; exact info30) ?_) | (refine load_rowB rfl 38 (.tmp 8) rfl w3.heap.size rfl 38 X3 (0, 0) _ Ya.out.x Try.underlying38 rfl (by rw [S3.out]; exact info30) ?_))
  refine (CQ.out _ Aa.out.r Ya.out.r).mono ?_
  rintro e wb ⟨rfl, bb⟩
  have Nb := Lib.hid (Na.out.call bb); have Ab := Lib.hid (Aa.out.below bb); have Yb := Lib.hid (Ya.out.below bb); have Wb := Lib.hid (own_below Wa.out bb)
  clear bb Na Aa Ya Wa CQ
  have CMk : Hid (∀ W, Owns W U10.heap.size p5 c5 LL → Calls Try.prog 14 #[.agg X5, .int .i64 1] W fun e w' => e = .returned (.int .i64 ((1 + 3 * LL.length : Nat) : Int)) ∧ Owns w' U10.heap.size p5 c5 (mkd LL 1) ∧ W.grownBy w' (Value.slice p5 LL.length c5).ownBlock) := Lib.hid (fun W h => by
    have := markBoxC nb p5 c5 U10.heap.size LL W SML.out.1 h
    rw [EX5.out] at this
    exact this)
  have CHd : Hid (∀ W, Rd W p5 (mkd LL 1) → Calls Try.prog 15 #[.agg X5, .int .i64 1] W fun e w' => e = .returned (.int .i64 ((1 + 3 * LL.length : Nat) : Int)) ∧ Below W.heap.size W w') := Lib.hid (fun W h => by
    have := heldBoxC nb p5 c5 LL W SML.out.1 h
    rw [EX5.out] at this
    exact this)
  obtain ⟨K, hK⟩ : ∃ K : Nat, K = 1 + 3 * LL.length := ⟨_, rfl⟩
  rw [← hK] at CMk CHd
  have qK : decide ((K : Int) < 0) = false := decide_eq_false (by omega)
  clear hK
  go_wp2_with (refine wpList_load_row rfl 38 (.tmp 11) rfl w5.heap.size rfl 38 X5 (0, 0) _ Ab.out.x Try.underlying38 rfl (by rw [S5.out]; exact info30) ?_)
  refine (CMk.out _ Wb.out).mono ?_
  rintro e wc ⟨rfl, om, gm⟩
  have hg := HG.out; have hz := ZU10.out; have hbe := HZ3.out; have hwl := HWL.out; have h5 := HZ5.out
  have kc : Keep U10.heap.size w5.heap.size wb wc := Keep.of_grown' gm (fun j e => W5B.out j e)
  have Nc := Lib.hid (Nb.out.keep kc (by omega))
  have Yc := Lib.hid (Yb.out.keep kc (.inl (by omega)))
  have Xc : Hid (wc.heap[w5.heap.size]? = some (.cells X5 38 (0, 0))) := Lib.hid ((kc.block _ Ab.out.lt (.inr (Nat.le_refl _))).trans Ab.out.x)
  have Mc := Lib.hid (owns_rd om)
  clear om gm kc hg hz hbe hwl h5 Nb Ab Yb Wb CMk
  go_wp2_with (refine wpList_load_row rfl 38 (.tmp 11) rfl w5.heap.size rfl 38 X5 (0, 0) _ Xc.out Try.underlying38 rfl (by rw [S5.out]; exact info30) ?_)
  refine (CHd.out _ Mc.out).mono ?_
  rintro e wd ⟨rfl, bd⟩
  have Nd := Lib.hid (Nc.out.call bd); have Yd := Lib.hid (Yc.out.below bd); have Xd := Lib.hid ((bd.block _ (lt_of_blk' Xc.out)).trans Xc.out); have Md := Lib.hid (Mc.out.below bd)
  clear bd Nc Yc Xc Mc
  go_wp2_with (refine wpList_load_row rfl 29 (.tmp 3) rfl w.heap.size rfl 29 V (0, 0) _ Nd.out.a Try.underlying29 rfl (by rw [SV.out]; exact I9.out) ?_)
  refine (CT.out _ Nd.out.r HS.out.1 Nd.out.ra Nd.out.rb Nd.out.rc HS.out.2).mono ?_
  rintro e we ⟨ge, v0, v1, v2, rfl, oe, _, _, _, _, _, _, _, _, be⟩
  have Ne := Lib.hid (Nd.out.call be); have Ye := Lib.hid (Yd.out.below be); have Xe := Lib.hid ((be.block _ (lt_of_blk' Xd.out)).trans Xd.out); have Me := Lib.hid (Md.out.below be)
  have Re := Lib.hid (owns_rd oe)
  clear be oe Nd Yd Xd Md
  go_wp2_with fail
  refine (CI.out ge _ _ _ HS.out.1 we Re.out).mono ?_
  rintro e wf ⟨p6, c6, rfl, of, bf⟩
  have Nf := Lib.hid (Ne.out.call bf); have Yf := Lib.hid (Ye.out.below bf); have Xf := Lib.hid ((bf.block _ (lt_of_blk' Xe.out)).trans Xe.out); have Mf := Lib.hid (Me.out.below bf)
  have Of := Lib.hid of
  have HZf := Lib.hid bf.size
  have hX6 := Lib.hid (boV_one nb p6 LL.length c6)
  have s6 : (boV nb (.slice p6 LL.length c6)).size = 30 := rfl
  obtain ⟨X6, eX6⟩ : ∃ X, boV nb (.slice p6 LL.length c6) = X := ⟨_, rfl⟩
  have EX6 := Lib.hid eX6
  rw [eX6] at hX6 s6 ⊢
  have S6 := Lib.hid s6
  clear eX6 s6 of bf Ne Ye Xe Me Re CI CT
  go_upto_region 27 with (first | (refine wpList_store_row rfl 38 (.tmp 16) (.tmp 90) rfl wf.heap.size X6 rfl rfl 38 _ (heap_alloc_new wf _) (by rw [S6.out]; exact info30) (by rw [S6.out]; rfl) hX6.out ?_; generalize hU : (wf.alloc (.cells #[.int .i64 0, .int .i64 0, .int .i64 0, .int .i64 0, .int .i64 0, .int .i64 0, .int .i64 0, .int .i64 0, .int .i64 0, .int .i64 0, .int .i64 0, .int .i64 0, .int .i64 0, .int .i64 0, .int .i64 0, .int .i64 0, .int .i64 0, .int .i64 0, .slice none 0 0, .int .i64 0, .int .i64 0, .string ⟨#[]⟩, .int .i64 0, .string ⟨#[]⟩, .int .i64 0, .int .i64 0, .int .i64 0, .int .i64 0, .int .i64 0, .int .i64 0] 38)).setRow wf.heap.size X6 = U16))
  have bU : Below wf.heap.size wf U16 := by rw [← hU]; exact below_var _ _ _ _
  have A16 : Hid (BX 38 wf.heap.size X6 p6 LL we.heap.size (wf.heap.size + 1) U16) := Lib.hid (by rw [← hU]; exact BX.new Of.out HZf.out)
  have Ng := Lib.hid (Nf.out.call bU); have Yg := Lib.hid (Yf.out.below bU); have Xg := Lib.hid ((bU.block _ (lt_of_blk' Xf.out)).trans Xf.out); have Mg := Lib.hid (Mf.out.below bU)
  clear hU bU Nf Yf Xf Mf Of hX6
  have CR : Hid (∀ W, Rd W p6 LL → Rd W p3 LL → Calls Try.prog 11 #[.agg X6, .agg X3] W fun e w' => e = .returned (.bool true) ∧ Below W.heap.size W w') := Lib.hid (fun W h1 h2 => by
    have := eqBoxC nb p6 p3 c6 c3 LL W HSL.out.1 h1 h2
    rw [EX6.out, EX3.out] at this
    exact this)
  go_wp2_with (first | (refine wpList_load_row rfl 38 (.tmp 16) rfl wf.heap.size rfl 38 X6 (0, 0) _ A16.out.x Try.underlying38 rfl (by rw [S6.out]; exact info30) ?_) | (refine wpList_load_row rfl 38 (.tmp 8) rfl w3.heap.size rfl 38 X3 (0, 0) _ Yg.out.x Try.underlying38 rfl (by rw [S3.out]; exact info30) ?_))
  refine (CR.out _ A16.out.r Yg.out.r).mono ?_
  rintro e wh ⟨rfl, bh⟩
  have Nh := Lib.hid (Ng.out.call bh); have Xh := Lib.hid ((bh.block _ (lt_of_blk' Xg.out)).trans Xg.out); have Mh := Lib.hid (Mg.out.below bh)
  clear bh Ng Yg Xg Mg A16 CR
  go_wp2_with (refine wpList_load_row rfl 38 (.tmp 11) rfl w5.heap.size rfl 38 X5 (0, 0) _ Xh.out Try.underlying38 rfl (by rw [S5.out]; exact info30) ?_)
  refine (CHd.out _ Mh.out).mono ?_
  rintro e wi ⟨rfl, bi⟩
  have Ni := Lib.hid (Nh.out.call bi)
  clear bi Nh Xh Mh
  go_wp2
  go_ret
  exact ⟨rfl, Ni.out.be⟩
set_option maxHeartbeats 1000000 in
set_option maxRecDepth 100000 in
theorem walk (E0 H0 T0 S0 : Int) (q0 : Option Addr) (c0 : Nat) (l0 : List Pg) (qa0 qb0 qc0 : Option Addr) (la0 lb0 lc0 : List Int) (ca0 cb0 cc0 : Nat) (n0 : Int) (a1 : ByteArray) (a2 : Int) (w : World) (r0 : Rd w q0 l0) (f0 : Fits l0) (ra0 : RdA w qa0 la0) (rb0 : RdA w qb0 lb0) (rc0 : RdA w qc0 lc0) (w1 : a1.size ≤ maxLen) (w2 : (Lit.int .i64 a2).wf = true) :
    Calls Try.prog 3 #[.agg #[.slice q0 l0.length c0, .int .i64 E0, .int .i64 H0, .int .i64 T0, .int .i64 S0, .slice qa0 la0.length ca0, .slice qb0 lb0.length cb0, .slice qc0 lc0.length cc0, .int .i64 n0], .string a1, .int .i64 a2] w fun e w' => e = .returned (.bool true) ∧ Below w.heap.size w w' := by
  exact both E0 H0 T0 S0 q0 c0 l0 qa0 qb0 qc0 la0 lb0 lc0 ca0 cb0 cc0 n0 a1 a2 w r0 f0 ra0 rb0 rc0 w1

/-! ### THE ROW's STEP -/
set_option maxRecDepth 100000 in
theorem lifted (os : Os) (started : os.Started) (H : Type) (enc : TypeId × Value → H) :
    ReturnsInHanded {} Try.checked os 3 .any (Rows.fnExactNewBoxSpec.pre6 enc Try.prog Try.f3 Rows.fnExactNewBoxRow.domain false) (Rows.fnExactNewBoxSpec.post enc Try.prog Try.f3 false true false false) := by
  refine returnsInHanded_of_change (C := Try.checked) own started (by kernel_rfl) Try.func3
    (ChangeSpec.witness6 (enc := enc) (C := Try.checked) false ⟨#[], #[.agg #[.slice none 0 0, .int .i64 0, .int .i64 0, .int .i64 0, .int .i64 0, .slice none 0 0, .slice none 0 0, .slice none 0 0, .int .i64 0], .string ByteArray.empty, .int .i64 0], []⟩ 8 (by kernel_rfl) (by kernel_rfl) (by kernel_rfl) (by kernel_rfl)) ?_
  intro W base args ds gs before hval0 hW hcnd _
  have hval : ∀ (j : Nat) t v, Try.f3.params[j]? = some t → args[j]? = some v → Value.okWide Try.prog W .any base t v := hval0
  have hW' := hW
  obtain ⟨p, q, hA0, hV, rfl, hfz, hnd⟩ := hW
  have hA : DataW.TrodAll enc Try.prog W 0 (fun _ => true) true Try.f3.params.toList args.toList ds p := hA0
  rw [Try.params3] at hA hval
  obtain ⟨v0, vs0, d0, ds0, p0, s0, hargs, rfl, rfl, h0, t0⟩ := trodAll_cons hA
  obtain ⟨v1, vs1, d1, ds1, p1, s1, rfl, rfl, rfl, h1, t1⟩ := trodAll_cons t0
  obtain ⟨v2, vs2, d2, ds2, p2, s2, rfl, rfl, rfl, h2, t2⟩ := trodAll_cons t1
  obtain ⟨rfl, rfl, rfl⟩ := trodAll_nil t2
  obtain rfl : args = #[v0, v1, v2] := by cases args; simp_all
  obtain ⟨rfl, rfl⟩ := trodVars_none hV
  have k0 := h0
  have lt0 : ∀ x ∈ p0, x.block < W.heap.size := by obtain ⟨m, hm⟩ := k0; exact DataW.trod_lt m _ _ _ hm
  obtain ⟨E0, H0, T0, S0, q0, l0, c0, qa0, qb0, qc0, la0, lb0, lc0, ca0, cb0, cc0, n0, rfl, r0, f0, ra0, rb0, rc0⟩ := open_ld Try.underlying29 (by kernel_rfl) rfl (by kernel_rfl) Try.underlying24 (by kernel_rfl) Try.underlying22 Try.underlying103 (by kernel_rfl) (by kernel_rfl) Try.underlying3 Try.underlying3 Try.underlying9 (by kernel_rfl) Try.underlying27 (by kernel_rfl) Try.underlying25 Try.underlying25 Try.underlying25 Try.underlying3 Try.underlying3 (by kernel_rfl) (hval 0 29 v0 rfl rfl) h0
  obtain ⟨a1, rfl, rfl, rfl, w1⟩ := open_string Try.underlying9 (hval 1 9 v1 rfl rfl) h1
  obtain ⟨a2, rfl, rfl, rfl, w2⟩ := open_int Try.underlying3 (hval 2 3 v2 rfl rfl) h2
  clear hA0 hval0
  refine (walk E0 H0 T0 S0 q0 c0 l0 qa0 qb0 qc0 la0 lb0 lc0 ca0 cb0 cc0 n0 a1 a2 W r0 f0 ra0 rb0 rc0 w1 w2).mono fun e W' ⟨he, bel⟩ => ?_
  subst he
  exact ⟨_, rfl, _, _, _, [], _, [], hW', trodAll_mk1 (shut_bool Try.underlying4 _), (trodAll_cons_mk (Below.trod laidOut (by kernel_rfl) (of_decide_eq_true (by kernel_rfl)) k0 bel lt0) (trodAll_cons_mk (shut_string Try.underlying9 w1) (trodAll_cons_mk (shut_int Try.underlying3 w2) trodAll_mk0))), rfl, bel.frame _, fun h => by cases h⟩

theorem over : Rows.fnExactNewBoxRow.holds Try.pinned (OpenSpec.ofChange Rows.fnExactNewBoxSpec) :=
  OpenClaim.holds_of_wide 3 Try.f3 rfl rfl rfl rfl rfl rfl rfl ⟨rfl, rfl, rfl, rfl, rfl⟩ rfl rfl rfl rfl rfl (by kernel_rfl) Try.func3 (by kernel_rfl)
    (of_decide_eq_true (by kernel_rfl)) (by unfold Func.isWrapper; first | (rw [if_pos (by decide +kernel)]; kernel_rfl) | (rw [if_neg (by decide +kernel)]; exact ⟨rfl, rfl⟩))
    (fun os started H enc _ => lifted os started H enc)

/-- ████ THE STATEMENT ████ -/
theorem proved : Rows.FnExactNewBoxSaid := over
#print axioms proved
end Go.Proofs.Ytcnmklgcifdmoaa.fnExactNewBox
