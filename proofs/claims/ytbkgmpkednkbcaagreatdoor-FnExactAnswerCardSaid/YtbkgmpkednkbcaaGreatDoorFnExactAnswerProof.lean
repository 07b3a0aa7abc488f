/-
  Proved: for every box (a processor, pages, numbers and texts) and number, laws.FnExactAnswer returns true (impl.Answer answers as spec.Answer, every field and every page, the number and the code, its answer owns its memory, and it leaves its argument as it was), with no condition.
-/
import Derived.Test.YtbkgmpkednkbcaaGreatDoorCards
import Derived.Test.YtbkgmpkednkbcaaGreatDoorTie
import Derived.LaidMore
import Derived.Stop.Joined
import Derived.OpenVars
import Derived.WalkKit
import Derived.ProofKit
import Derived.OpenShut
import Derived.ShutString
import Derived.Test.YtbkgmpkednkbcaaGreatDoorWalkSw8
import Derived.Test.YtbkgmpkednkbcaaGreatDoorWalkBoxM
import Derived.Deep.RegionHeld3
import Derived.ChangeOld
import Derived.Below
import Derived.Test.YtbkgmpkednkbcaaGreatDoorOpenBox
namespace Go.Proofs.YtbkgmpkednkbcaaGreatDoor.fnExactAnswer
open Go.ChangeShapes Go.WideShapes Go.ChangeAt Go.RowKit
open Go.ChangeMaps (open_string shut_string)
set_option linter.unusedVariables false

theorem own : ownKnob Tryz.prog.godebug = none := by kernel_rfl
theorem laidOut : laidOutB Tryz.prog = true := by kernel_rfl

theorem loadLB {W : World} {b : Nat} {V : Array Value} (h : W.heap[b]? = some (.cells V 29 (0, 0))) (hV : V.size = 30) : (Instr.loadAt 29 (.pointer (some ⟨b, 0, none⟩))).run Tryz.prog W = .ok (.agg V) W := by
  simp only [Instr.loadAt, Instr.sureAddr, Sem.run_bind, Sem.run_pure, Result.andThen_ok]
  exact run_loadVar_row W b 29 29 V (0, 0) _ h Tryz.underlying29 rfl (by rw [hV]; kernel_rfl)
theorem loadIB {W : World} {b : Nat} {V : Array Value} (h : W.heap[b]? = some (.cells V 36 (0, 0))) (hV : V.size = 30) : (Instr.loadAt 36 (.pointer (some ⟨b, 0, none⟩))).run Tryz.prog W = .ok (.agg V) W := by
  simp only [Instr.loadAt, Instr.sureAddr, Sem.run_bind, Sem.run_pure, Result.andThen_ok]
  exact run_loadVar_row W b 36 36 V (0, 0) _ h Tryz.underlying36 rfl (by rw [hV]; kernel_rfl)
theorem load_rowB {P : Program} {ops : Array Oper} {rest : List Oper} {o : Oper} {a : Act} {w : World} {Q : Exit → Act → World → Prop} (hw : Region.wanted o (yielded ops a.tmps) = true) (ty : TypeId) (x : Operand) (ho : o.op = .load ty x)
    (g : Nat) (hx : a.eval x = .pointer (some ⟨g, 0, none⟩)) (t : TypeId) (cs : Array Value) (fr : Nat × Nat) (d : TypeDesc) (hg : w.heap[g]? = some (.cells cs t fr))
    (hu : P.underlying ty = some d) (hd : (match d with | .struct _ | .array _ _ => true | _ => false) = true) (hi : (P.info? ty).map (·.size) = some cs.size)
    (h : wpList P ops Q rest (a.put o.dst (.agg cs)) w) : wpList P ops Q (o :: rest) a w :=
  wpList_step fun K hK => by rw [if_pos hw]; exact wp_load_row ty x ho g hx t cs fr d hg hu hd hi (hK _ _ h)
/-- the law's argument -/
structure NA (w : World) (V : Array Value) (q : Option Addr) (l : List Pg) (W : World) : Prop where
  a : W.heap[w.heap.size]? = some (.cells V 29 (0, 0))
  r : Rd W q l
  k : ∀ b o, q = some ⟨b, o, none⟩ → l ≠ [] → 0 ≤ b ∧ b < w.heap.size
  be : Below w.heap.size w W
theorem NA.call {w W W' : World} {V : Array Value} {q : Option Addr} {l : List Pg} (h : NA w V q l W) (hb : Below W.heap.size W W') : NA w V q l W' :=
  ⟨(hb.block _ (lt_of_blk' h.a)).trans h.a, h.r.below hb, h.k, h.be.trans (hb.mono h.be.size)⟩
theorem NA.keep {w W W' : World} {V : Array Value} {q : Option Addr} {l : List Pg} {a b : Nat} (h : NA w V q l W) (hk : Keep a b W W') (hd : w.heap.size < a) : NA w V q l W' := by
  have kb : ∀ k, k < w.heap.size → k < W.heap.size → W'.heap[k]? = W.heap[k]? := fun k h1 h2 => hk.block k h2 (.inl (by omega))
  exact ⟨(hk.block _ (lt_of_blk' h.a) (.inl hd)).trans h.a, h.r.kept hk.size (fun j o e hl hj => kb j (h.k j o e hl).2 hj), h.k, Keep.below h.be hk (by omega)⟩
theorem memok_small {l : List Pg} (h : MemOk l) : Small l := ⟨by have := h.1; omega, fun k x hk => by have := (h.2.1 k x hk).2.2.2.2.2; omega⟩
theorem ansR_small {b b' : Bo} {l l' : List Pg} {n v k : Int} (hs : Small l) (h : AnsR b l n b' l' v k) : Small l' := by
  rcases h with ⟨_, _, rfl, _⟩ | ⟨_, _, _, rfl, _⟩ | ⟨_, _, _, _, rfl, _⟩ | ⟨_, _, _, _, rfl, _⟩ | ⟨ho, _, _, h, _⟩
  · exact ⟨by simp, fun k x hx => by simp at hx⟩
  · exact ⟨by simp, fun k x hx => by simp at hx⟩
  · exact hs
  · exact hs
  · have hm := ho.2.1
    have h3 := ho.2.2.1
    refine memok_small ?_
    rcases h with ⟨_, h⟩ | ⟨_, h⟩ | ⟨_, h⟩ | ⟨_, _, rfl, _⟩ | ⟨_, _, rfl, _⟩ | ⟨_, _, rfl, _⟩
    · rcases h with ⟨_, _, rfl, _⟩ | ⟨_, h, _⟩
      · exact hm
      · exact (lay_shape hm h).1
    · rcases h with ⟨_, _, rfl, _⟩ | ⟨_, _, _, rfl, _⟩ | ⟨_, _, _, rfl, _⟩ <;> exact hm
    · rcases h with ⟨_, _, rfl, _⟩ | ⟨_, _, _, rfl, _⟩ | ⟨h1, h, _⟩
      · exact hm
      · exact hm
      · exact (h.ok _ rfl hm hs ⟨by omega, by omega⟩ h1.2).1
    · exact hm
    · exact hm
    · exact hm
attribute [-go_sem] Instr.loadAt in
set_option maxRecDepth 100000 in
set_option maxHeartbeats 16000000 in
theorem both (b : Bo) (q : Option Addr) (c : Nat) (l : List Pg) (n : Int) (w : World) (bw : BoW b) (r0 : Rd w q l) (f0 : Fits l) (hn : (Lit.int .i64 n).wf = true) :
    Calls Tryz.prog 3 #[.agg (boV b (.slice q l.length c)), .int .i64 n] w fun e w' => e = .returned (.bool true) ∧ Below w.heap.size w w' := by
  have hm := mixed
  obtain ⟨v, hv, hI, hS⟩ := cpuI b.c bw.c
  have hbk := rd_blk r0
  have N0 : NA w (boV b (.slice q l.length c)) q l (w.alloc (.cells (boV b (.slice q l.length c)) 29)) := ⟨heap_alloc_new w _, r0.below (below1 w _), hbk, below1 w _⟩
  have CZ := Lib.hid (fun W hR => szBoxC b q c l 1048576 W hR f0 bw.inp bw.out_ (by omega) (by omega))
  have CT := Lib.hid (fun W hR hs => toBoxC b q c l W hR hs)
  have CS := Lib.hid (fun g W hsm hg hR => answerS n b g 0 l.length l v W hv hS f0 hsm hg hR)
  have CI := Lib.hid (fun g W hs hR => answerI n b (some ⟨g, 0, none⟩) l.length l v W hn hv hI (Ad.own g) hs hR)
  have CE := Lib.hid (fun g g' W h1 h2 => eqBoxC b (some ⟨g, 0, none⟩) (some ⟨g', 0, none⟩) l.length l.length l W f0.1 h1 h2)
  have CM := Lib.hid (fun g B W hs ho => markBoxC b (some ⟨g, 0, none⟩) l.length B l W hs ho)
  have sv : (boV b (.slice q l.length c)).size = 30 := rfl
  have N0' := Lib.hid N0
  have BB := Lib.hid bw
  clear r0 f0 N0 hbk hv hI hS bw hn
  generalize (boV b (.slice q l.length c)) = V at *
  have SV := Lib.hid sv
  have I9 := Lib.hid (show (Tryz.prog.info? 29).map (·.size) = some 30 by kernel_rfl)
  clear sv
  go_enter Tryz.func3, Tryz.ntmps3
  go_wp2_with (refine wpList_load_row rfl 29 (.tmp 2) rfl w.heap.size rfl 29 V (0, 0) _ N0'.out.a Tryz.underlying29 rfl (by rw [SV.out]; exact I9.out) ?_)
  refine (CZ.out _ N0'.out.r).mono ?_
  rintro e w1 ⟨r, rfl, HQ, b1⟩
  have N1 := Lib.hid (N0'.out.call b1)
  clear b1 N0' CZ
  by_cases hneg : r < 0
  · go_wp2
    go_ret
    exact ⟨rfl, N1.out.be⟩
  have hd : decide (r < 0) = false := decide_eq_false hneg
  have HS := Lib.hid (HQ.out.2.2 (by omega)).1
  clear hneg HQ
  go_wp2_with (refine wpList_load_row rfl 29 (.tmp 2) rfl w.heap.size rfl 29 V (0, 0) _ N1.out.a Tryz.underlying29 rfl (by rw [SV.out]; exact I9.out) ?_)
  refine (CT.out _ N1.out.r HS.out).mono ?_
  rintro e w2 ⟨g2, rfl, o2, b2⟩
  have N2 := Lib.hid (N1.out.call b2)
  have R2 := Lib.hid (Rd.of_own o2)
  have HG2 : Hid (g2 < w2.heap.size) := Lib.hid (o2.lt g2 rfl).2
  clear b2 o2 N1
  go_wp2_with fail
  refine (CS.out g2 w2 HS.out HG2.out R2.out).mono ?_
  rintro e w3 ⟨nb, LL, vv, kk, p3, c3, hA, rfl, o3, b3⟩
  clear CS R2 HG2
  have HA := Lib.hid hA.out
  have SML := Lib.hid (ansR_small HS.out hA.out)
  have N3 := Lib.hid (N2.out.call b3)
  have O3 := Lib.hid o3
  have HZ3 := Lib.hid b3.size
  have HWL : Hid (w.heap.size < w2.heap.size) := Lib.hid (lt_of_blk' N2.out.a)
  have hX3 := Lib.hid (boV_one nb p3 LL.length c3)
  have s3 : (boV nb (.slice p3 LL.length c3)).size = 30 := rfl
  obtain ⟨X3, eX3⟩ : ∃ X, boV nb (.slice p3 LL.length c3) = X := ⟨_, rfl⟩
  have EX3 := Lib.hid eX3
  rw [eX3] at hX3 s3 ⊢
  have S3 := Lib.hid s3
  clear eX3 s3 o3 b3 hA
  go_upto_region 6 with (first | (refine wpList_store_row rfl 36 (.tmp 6) (.tmp 29) rfl w3.heap.size X3 rfl rfl 36 _ (heap_alloc_new w3 _) (by rw [S3.out]; exact info30s) (by rw [S3.out]; rfl) hX3.out ?_; generalize hU : (w3.alloc (.cells #[.int .i64 0, .int .i64 0, .int .i64 0, .int .i64 0, .int .i64 0, .int .i64 0, .int .i64 0, .int .i64 0, .int .i64 0, .int .i64 0, .int .i64 0, .int .i64 0, .int .i64 0, .int .i64 0, .int .i64 0, .int .i64 0, .int .i64 0, .int .i64 0, .slice none 0 0, .int .i64 0, .int .i64 0, .string ⟨#[]⟩, .int .i64 0, .string ⟨#[]⟩, .int .i64 0, .int .i64 0, .int .i64 0, .int .i64 0, .int .i64 0, .int .i64 0] 36)).setRow w3.heap.size X3 = U8))
  have bU : Below w3.heap.size w3 U8 := by rw [← hU]; exact below_var _ _ _ _
  have zU : U8.heap.size = w3.heap.size + 1 := by rw [← hU]; exact size_var _ _ _ _
  have Y8 : Hid (BX 36 w3.heap.size X3 p3 LL w2.heap.size (w3.heap.size + 1) U8) := Lib.hid (by rw [← hU]; exact BX.new O3.out HZ3.out)
  have N8 := Lib.hid (N3.out.call bU)
  have ZU := Lib.hid zU
  clear hU bU zU N3 O3 N2 hX3
  go_wp2_with (refine wpList_load_row rfl 29 (.tmp 2) rfl w.heap.size rfl 29 V (0, 0) _ N8.out.a Tryz.underlying29 rfl (by rw [SV.out]; exact I9.out) ?_)
  refine (CT.out _ N8.out.r HS.out).mono ?_
  rintro e w4 ⟨g4, rfl, o4, b4⟩
  have N4 := Lib.hid (N8.out.call b4)
  have Y4 := Lib.hid (Y8.out.below b4)
  have O4 : Hid (Owns w4 U8.heap.size (some ⟨g4, 0, none⟩) l.length l) := Lib.hid o4
  have HG : Hid (w3.heap.size + 1 ≤ g4 ∧ g4 < w4.heap.size) := Lib.hid ⟨by have := ZU.out; have := (o4.lt g4 rfl).1; omega, (o4.lt g4 rfl).2⟩
  have hX4 := Lib.hid (boV_one b (some ⟨g4, 0, none⟩) l.length l.length)
  have s4 : (boV b (.slice (some ⟨g4, 0, none⟩) l.length l.length)).size = 30 := rfl
  have C4 := Lib.hid (fun W hR => CI.out g4 W HS.out hR)
  have CE4 := Lib.hid (fun g' W h1 h2 => CE.out g4 g' W h1 h2)
  have CM4 := Lib.hid (fun B W ho => CM.out g4 B W HS.out.1 ho)
  clear o4 b4 N8 Y8 CE CM
  generalize hX4e : boV b (.slice (some ⟨g4, 0, none⟩) l.length l.length) = X4 at hX4 s4 C4 CE4 CM4 ⊢
  have S4 := Lib.hid s4
  clear hX4e s4
  go_upto_region 7 with (first | (refine wpList_store_row rfl 36 (.tmp 9) (.tmp 33) rfl w4.heap.size X4 rfl rfl 36 _ (heap_alloc_new w4 _) (by rw [S4.out]; exact info30s) (by rw [S4.out]; rfl) hX4.out ?_; generalize hU : (w4.alloc (.cells #[.int .i64 0, .int .i64 0, .int .i64 0, .int .i64 0, .int .i64 0, .int .i64 0, .int .i64 0, .int .i64 0, .int .i64 0, .int .i64 0, .int .i64 0, .int .i64 0, .int .i64 0, .int .i64 0, .int .i64 0, .int .i64 0, .int .i64 0, .int .i64 0, .slice none 0 0, .int .i64 0, .int .i64 0, .string ⟨#[]⟩, .int .i64 0, .string ⟨#[]⟩, .int .i64 0, .int .i64 0, .int .i64 0, .int .i64 0, .int .i64 0, .int .i64 0] 36)).setRow w4.heap.size X4 = U10))
  have bU : Below w4.heap.size w4 U10 := by rw [← hU]; exact below_var _ _ _ _
  have zU : U10.heap.size = w4.heap.size + 1 := by rw [← hU]; exact size_var _ _ _ _
  have xU : U10.heap[w4.heap.size]? = some (.cells X4 36 (0, 0)) := by rw [← hU]; exact setRow_heap _ _ _ _ _ _ (heap_alloc_new w4 _)
  have N10 := Lib.hid (N4.out.call bU); have Y10 := Lib.hid (Y4.out.below bU); have X10 := Lib.hid xU; have ZU10 := Lib.hid zU
  have O10 := Lib.hid (own_below O4.out bU)
  clear hU bU zU xU N4 Y4 O4 hX4
  go_wp2_with (refine wpList_load_row rfl 36 (.tmp 9) rfl w4.heap.size rfl 36 X4 (0, 0) _ X10.out Tryz.underlying36 rfl (by rw [S4.out]; exact info30s) ?_)
  refine (C4.out U10 (owns_rd O10.out)).mono ?_
  rintro e w5 ⟨nb5, LL5, vv5, kk5, p5, c5, hA5, rfl, o5, b5⟩
  obtain ⟨rfl, rfl, rfl, rfl⟩ := HA.out.one hA5.out
  clear C4 hA5
  have N5 := Lib.hid (N10.out.call b5); have Y5 := Lib.hid (Y10.out.below b5); have XR5 := Lib.hid ((b5.block _ (lt_of_blk' X10.out)).trans X10.out)
  have O5 := Lib.hid (own_below O10.out b5)
  have W5 := Lib.hid o5
  have W5B : Hid (∀ j, (Value.slice p5 LL.length c5).ownBlock = some j → U10.heap.size ≤ j ∧ j < w5.heap.size) := Lib.hid (fun j e => own_row o5 e)
  have HZ5 := Lib.hid b5.size
  have hX5 := Lib.hid (boV_one nb p5 LL.length c5)
  have s5 : (boV nb (.slice p5 LL.length c5)).size = 30 := rfl
  obtain ⟨X5, eX5⟩ : ∃ X, boV nb (.slice p5 LL.length c5) = X := ⟨_, rfl⟩
  have EX5 := Lib.hid eX5
  rw [eX5] at hX5 s5 ⊢
  have S5 := Lib.hid s5
  clear eX5 s5 o5 b5 N10 Y10 X10 O10
  go_upto_region 8 with (first | (refine wpList_store_row rfl 36 (.tmp 10) (.tmp 38) rfl w5.heap.size X5 rfl rfl 36 _ (heap_alloc_new w5 _) (by rw [S5.out]; exact info30s) (by rw [S5.out]; rfl) hX5.out ?_; generalize hU : (w5.alloc (.cells #[.int .i64 0, .int .i64 0, .int .i64 0, .int .i64 0, .int .i64 0, .int .i64 0, .int .i64 0, .int .i64 0, .int .i64 0, .int .i64 0, .int .i64 0, .int .i64 0, .int .i64 0, .int .i64 0, .int .i64 0, .int .i64 0, .int .i64 0, .int .i64 0, .slice none 0 0, .int .i64 0, .int .i64 0, .string ⟨#[]⟩, .int .i64 0, .string ⟨#[]⟩, .int .i64 0, .int .i64 0, .int .i64 0, .int .i64 0, .int .i64 0, .int .i64 0] 36)).setRow w5.heap.size X5 = U11))
  have bU : Below w5.heap.size w5 U11 := by rw [← hU]; exact below_var _ _ _ _
  have A11 : Hid (BX 36 w5.heap.size X5 p5 LL U10.heap.size (w5.heap.size + 1) U11) := Lib.hid (by rw [← hU]; exact BX.new W5.out HZ5.out)
  have N11 := Lib.hid (N5.out.call bU); have Y11 := Lib.hid (Y5.out.below bU); have X11 := Lib.hid ((bU.block _ (lt_of_blk' XR5.out)).trans XR5.out)
  have O11 := Lib.hid (own_below O5.out bU)
  have W11 : Hid (Owns U11 U10.heap.size p5 c5 LL) := Lib.hid (own_below W5.out bU)
  clear hU bU N5 Y5 XR5 O5 W5 hX5
  have HSL := Lib.hid SML.out.fits
  have CQ : Hid (∀ W, Rd W p5 LL → Rd W p3 LL → Calls Tryz.prog 9 #[.agg X5, .agg X3] W fun e w' => e = .returned (.bool true) ∧ Below W.heap.size W w') := Lib.hid (fun W h1 h2 => by
    have := eqBoxC nb p5 p3 c5 c3 LL W HSL.out.1 h1 h2
    rw [EX5.out, EX3.out] at this
    exact this)
  go_wp2_with (first | (refine wpList_load_row rfl 36 (.tmp 10) rfl w5.heap.size rfl 36 X5 (0, 0) _ A11.out.x Tryz.underlying36 rfl (by rw [S5.out]; exact info30s) ?_) | (refine wpList_load_row rfl 36 (.tmp 6) rfl w3.heap.size rfl 36 X3 (0, 0) _ Y11.out.x Tryz.underlying36 rfl (by rw [S3.out]; exact info30s) ?_))
  refine (CQ.out _ A11.out.r Y11.out.r).mono ?_
  rintro e w6 ⟨rfl, b6⟩
  have m6 : NA w V q l w6 ∧ w6.heap[w4.heap.size]? = some (.cells X4 36 (0, 0)) := ⟨N11.out.call b6, (b6.block _ (lt_of_blk' X11.out)).trans X11.out⟩
  have b7 : Below U11.heap.size U11 w6.drew := bthen b6 (below_drew1 w6)
  have m7 : NA w V q l w6.drew ∧ w6.drew.heap[w4.heap.size]? = some (.cells X4 36 (0, 0)) := ⟨N11.out.call b7, (b7.block _ (lt_of_blk' X11.out)).trans X11.out⟩
  have A7 := Lib.hid (A11.out.below b7); have Y7 := Lib.hid (Y11.out.below b7); have O7 := Lib.hid (own_below O11.out b7); have W7 := Lib.hid (own_below W11.out b7)
  have N7 := Lib.hid m7.1
  have C7 := Lib.hid (CT.out w6.drew N7.out.r HS.out)
  have HLt : ∀ u, (NA w V q l u ∧ u.heap[w4.heap.size]? = some (.cells X4 36 (0, 0))) → (Instr.loadAt 29 (.pointer (some ⟨w.heap.size, 0, none⟩))).run Tryz.prog u = .ok (.agg V) u := fun u h => loadLB h.1.a SV.out
  have HLi : ∀ u, (NA w V q l u ∧ u.heap[w4.heap.size]? = some (.cells X4 36 (0, 0))) → (Instr.loadAt 36 (.pointer (some ⟨w4.heap.size, 0, none⟩))).run Tryz.prog u = .ok (.agg X4) u := fun u h => loadIB h.2 S4.out
  clear b6 b7 N11 X11 A11 Y11 O11 W11
  go_wp2_with fail
  go_region_held3 (fun W' => NA w V q l W' ∧ W'.heap[w4.heap.size]? = some (.cells X4 36 (0, 0))) (first | (with_reducible exact m6) | (with_reducible exact m7) | (with_reducible exact m8) | (with_reducible exact m9) | go_keep) (first | (go_at_call 7; (with_reducible refine Calls.mono (C7.out) ?_); rintro e w8 ⟨g8, rfl, o8, b8⟩; have m8 : NA w V q l w8 ∧ w8.heap[w4.heap.size]? = some (.cells X4 36 (0, 0)) := ⟨N7.out.call b8, (b8.block _ (lt_of_blk' m7.2)).trans m7.2⟩; have N8 := Lib.hid m8; have A8 := Lib.hid (A7.out.below b8); have Y8 := Lib.hid (Y7.out.below b8); have O8 := Lib.hid (own_below O7.out b8); have W8 := Lib.hid (own_below W7.out b8); have C8 := Lib.hid (CE4.out g8 w8 (owns_rd O8.out) (Rd.of_own o8)); clear o8 b8) | (go_at_call 9; (with_reducible refine Calls.mono (C8.out) ?_); rintro e w9 ⟨rfl, b9⟩; have m9 : NA w V q l w9 ∧ w9.heap[w4.heap.size]? = some (.cells X4 36 (0, 0)) := ⟨N8.out.1.call b9, (b9.block _ (lt_of_blk' N8.out.2)).trans N8.out.2⟩; have N9 := Lib.hid m9; have A9 := Lib.hid (A8.out.below b9); have Y9 := Lib.hid (Y8.out.below b9); have O9 := Lib.hid (own_below O8.out b9); have W9 := Lib.hid (own_below W8.out b9); clear b9))
  clear m6 m7 m8 m9 HLt HLi C7 C8 N7 A7 Y7 O7 W7 N8 A8 Y8 O8 W8 CE4
  go_wp2_with (refine wpList_load_row rfl 36 (.tmp 9) rfl w4.heap.size rfl 36 X4 (0, 0) _ N9.out.2 Tryz.underlying36 rfl (by rw [S4.out]; exact info30s) ?_)
  refine (CM4.out _ w9 O9.out).mono ?_
  rintro e wa ⟨rfl, oa, ga⟩
  have ka : Keep g4 (g4 + 1) w9 wa := Keep.of_grown' ga (fun j e => by have h9 : g4 = j := Option.some.inj e; omega)
  have hg := HG.out; have hz := ZU10.out; have hlw := lt_of_blk' N9.out.1.a; have hbk := Y9.out.n1; have hbe := HZ3.out
  have hw2 : w.heap.size < g4 := by have := HZ3.out; have := HWL.out; omega
  have Na := Lib.hid (N9.out.1.keep ka hw2)
  have Aa := Lib.hid (A9.out.keep ka (.inr (by omega))); have Ya := Lib.hid (Y9.out.keep ka (.inl (by omega)))
  have Wa : Hid (Owns wa U10.heap.size p5 c5 LL) := Lib.hid (owns_kept3 (show Owns w9 U10.heap.size p5 c5 LL from W9.out) (fun j e => by
    have hj := own_row (show Owns w9 U10.heap.size p5 c5 LL from W9.out) (k := j) (by rw [e]; rfl)
    exact ka.block j hj.2 (.inr (by omega))))
  obtain ⟨J, hJ⟩ : ∃ J : Nat, J = 1 + 3 * l.length := ⟨_, rfl⟩
  rw [← hJ]
  have qJ : decide ((J : Int) < 0) = false := decide_eq_false (by omega)
  clear ka oa ga hJ hg hz hlw hbk hbe hw2 N9 A9 Y9 O9 W9 CM4
  go_wp2_with (first | (refine load_rowB rfl 36 (.tmp 10) rfl w5.heap.size rfl 36 X5 (0, 0) _ Aa.out.x Tryz.underlying36 rfl (by rw [S5.out]; exact info30s) ?_) | (refine load_rowB rfl 36 (.tmp 6) rfl w3.heap.size rfl 36 X3 (0, 0) _ Ya.out.x Tryz.underlying36 rfl (by rw [S3.out]; exact info30s) ?_))
  refine (CQ.out _ Aa.out.r Ya.out.r).mono ?_
  rintro e wb ⟨rfl, bb⟩
  have Nb := Lib.hid (Na.out.call bb); have Ab := Lib.hid (Aa.out.below bb); have Yb := Lib.hid (Ya.out.below bb); have Wb := Lib.hid (own_below Wa.out bb)
  clear bb Na Aa Ya Wa CQ
  have CMk : Hid (∀ W, Owns W U10.heap.size p5 c5 LL → Calls Tryz.prog 10 #[.agg X5, .int .i64 1] W fun e w' => e = .returned (.int .i64 ((1 + 3 * LL.length : Nat) : Int)) ∧ Owns w' U10.heap.size p5 c5 (mkd LL 1) ∧ W.grownBy w' (Value.slice p5 LL.length c5).ownBlock) := Lib.hid (fun W h => by
    have := markBoxC nb p5 c5 U10.heap.size LL W SML.out.1 h
    rw [EX5.out] at this
    exact this)
  have CHd : Hid (∀ W, Rd W p5 (mkd LL 1) → Calls Tryz.prog 11 #[.agg X5, .int .i64 1] W fun e w' => e = .returned (.int .i64 ((1 + 3 * LL.length : Nat) : Int)) ∧ Below W.heap.size W w') := Lib.hid (fun W h => by
    have := heldBoxC nb p5 c5 LL W SML.out.1 h
    rw [EX5.out] at this
    exact this)
  obtain ⟨K, hK⟩ : ∃ K : Nat, K = 1 + 3 * LL.length := ⟨_, rfl⟩
  rw [← hK] at CMk CHd
  have qK : decide ((K : Int) < 0) = false := decide_eq_false (by omega)
  clear hK
  go_wp2_with (refine wpList_load_row rfl 36 (.tmp 10) rfl w5.heap.size rfl 36 X5 (0, 0) _ Ab.out.x Tryz.underlying36 rfl (by rw [S5.out]; exact info30s) ?_)
  refine (CMk.out _ Wb.out).mono ?_
  rintro e wc ⟨rfl, om, gm⟩
  have hg := HG.out; have hz := ZU10.out; have hbe := HZ3.out; have hwl := HWL.out; have h5 := HZ5.out
  have kc : Keep U10.heap.size w5.heap.size wb wc := Keep.of_grown' gm (fun j e => W5B.out j e)
  have Nc := Lib.hid (Nb.out.keep kc (by omega))
  have Yc := Lib.hid (Yb.out.keep kc (.inl (by omega)))
  have Xc : Hid (wc.heap[w5.heap.size]? = some (.cells X5 36 (0, 0))) := Lib.hid ((kc.block _ Ab.out.lt (.inr (Nat.le_refl _))).trans Ab.out.x)
  have Mc := Lib.hid (owns_rd om)
  clear om gm kc hg hz hbe hwl h5 Nb Ab Yb Wb CMk
  go_wp2_with (refine wpList_load_row rfl 36 (.tmp 10) rfl w5.heap.size rfl 36 X5 (0, 0) _ Xc.out Tryz.underlying36 rfl (by rw [S5.out]; exact info30s) ?_)
  refine (CHd.out _ Mc.out).mono ?_
  rintro e wd ⟨rfl, bd⟩
  have Nd := Lib.hid (Nc.out.call bd); have Yd := Lib.hid (Yc.out.below bd); have Xd := Lib.hid ((bd.block _ (lt_of_blk' Xc.out)).trans Xc.out); have Md := Lib.hid (Mc.out.below bd)
  clear bd Nc Yc Xc Mc
  go_wp2_with (refine wpList_load_row rfl 29 (.tmp 2) rfl w.heap.size rfl 29 V (0, 0) _ Nd.out.a Tryz.underlying29 rfl (by rw [SV.out]; exact I9.out) ?_)
  refine (CT.out _ Nd.out.r HS.out).mono ?_
  rintro e we ⟨ge, rfl, oe, be⟩
  have Ne := Lib.hid (Nd.out.call be); have Ye := Lib.hid (Yd.out.below be); have Xe := Lib.hid ((be.block _ (lt_of_blk' Xd.out)).trans Xd.out); have Me := Lib.hid (Md.out.below be)
  have Re := Lib.hid (Rd.of_own oe)
  clear be oe Nd Yd Xd Md
  go_wp2_with fail
  refine (CI.out ge we HS.out Re.out).mono ?_
  rintro e wf ⟨nb6, LL6, vv6, kk6, p6, c6, hA6, rfl, of, bf⟩
  obtain ⟨rfl, rfl, rfl, rfl⟩ := HA.out.one hA6.out
  clear hA6
  have Nf := Lib.hid (Ne.out.call bf); have Yf := Lib.hid (Ye.out.below bf); have Xf := Lib.hid ((bf.block _ (lt_of_blk' Xe.out)).trans Xe.out); have Mf := Lib.hid (Me.out.below bf)
  have Of := Lib.hid of
  have HZf := Lib.hid bf.size
  have hX6 := Lib.hid (boV_one nb p6 LL.length c6)
  have s6 : (boV nb (.slice p6 LL.length c6)).size = 30 := rfl
  obtain ⟨X6, eX6⟩ : ∃ X, boV nb (.slice p6 LL.length c6) = X := ⟨_, rfl⟩
  have EX6 := Lib.hid eX6
  rw [eX6] at hX6 s6 ⊢
  have S6 := Lib.hid s6
  clear eX6 s6 of bf Ne Ye Xe Me Re CI CT
  go_upto_region 25 with (first | (refine wpList_store_row rfl 36 (.tmp 16) (.tmp 97) rfl wf.heap.size X6 rfl rfl 36 _ (heap_alloc_new wf _) (by rw [S6.out]; exact info30s) (by rw [S6.out]; rfl) hX6.out ?_; generalize hU : (wf.alloc (.cells #[.int .i64 0, .int .i64 0, .int .i64 0, .int .i64 0, .int .i64 0, .int .i64 0, .int .i64 0, .int .i64 0, .int .i64 0, .int .i64 0, .int .i64 0, .int .i64 0, .int .i64 0, .int .i64 0, .int .i64 0, .int .i64 0, .int .i64 0, .int .i64 0, .slice none 0 0, .int .i64 0, .int .i64 0, .string ⟨#[]⟩, .int .i64 0, .string ⟨#[]⟩, .int .i64 0, .int .i64 0, .int .i64 0, .int .i64 0, .int .i64 0, .int .i64 0] 36)).setRow wf.heap.size X6 = U16))
  have bU : Below wf.heap.size wf U16 := by rw [← hU]; exact below_var _ _ _ _
  have A16 : Hid (BX 36 wf.heap.size X6 p6 LL we.heap.size (wf.heap.size + 1) U16) := Lib.hid (by rw [← hU]; exact BX.new Of.out HZf.out)
  have Ng := Lib.hid (Nf.out.call bU); have Yg := Lib.hid (Yf.out.below bU); have Xg := Lib.hid ((bU.block _ (lt_of_blk' Xf.out)).trans Xf.out); have Mg := Lib.hid (Mf.out.below bU)
  clear hU bU Nf Yf Xf Mf Of hX6
  have CR : Hid (∀ W, Rd W p6 LL → Rd W p3 LL → Calls Tryz.prog 9 #[.agg X6, .agg X3] W fun e w' => e = .returned (.bool true) ∧ Below W.heap.size W w') := Lib.hid (fun W h1 h2 => by
    have := eqBoxC nb p6 p3 c6 c3 LL W HSL.out.1 h1 h2
    rw [EX6.out, EX3.out] at this
    exact this)
  go_wp2_with (first | (refine wpList_load_row rfl 36 (.tmp 16) rfl wf.heap.size rfl 36 X6 (0, 0) _ A16.out.x Tryz.underlying36 rfl (by rw [S6.out]; exact info30s) ?_) | (refine wpList_load_row rfl 36 (.tmp 6) rfl w3.heap.size rfl 36 X3 (0, 0) _ Yg.out.x Tryz.underlying36 rfl (by rw [S3.out]; exact info30s) ?_))
  refine (CR.out _ A16.out.r Yg.out.r).mono ?_
  rintro e wh ⟨rfl, bh⟩
  have Nh := Lib.hid (Ng.out.call bh); have Xh := Lib.hid ((bh.block _ (lt_of_blk' Xg.out)).trans Xg.out); have Mh := Lib.hid (Mg.out.below bh)
  clear bh Ng Yg Xg Mg A16 CR
  go_wp2_with (refine wpList_load_row rfl 36 (.tmp 10) rfl w5.heap.size rfl 36 X5 (0, 0) _ Xh.out Tryz.underlying36 rfl (by rw [S5.out]; exact info30s) ?_)
  refine (CHd.out _ Mh.out).mono ?_
  rintro e wi ⟨rfl, bi⟩
  have Ni := Lib.hid (Nh.out.call bi)
  clear bi Nh Xh Mh
  go_wp2
  go_ret
  exact ⟨rfl, Ni.out.be⟩
set_option maxHeartbeats 1000000 in
set_option maxRecDepth 100000 in
theorem walk (b0 : Bo) (q0 : Option Addr) (c0 : Nat) (l0 : List Pg) (a1 : Int) (w : World) (bw0 : BoW b0) (r0 : Rd w q0 l0) (f0 : Fits l0) (w1 : (Lit.int .i64 a1).wf = true) (hL : laidMetH Tryz.prog Rows.fnExactAnswerRow.laid w) :
    Calls Tryz.prog 3 #[.agg (boV b0 (.slice q0 l0.length c0)), .int .i64 a1] w fun e w' => e = .returned (.bool true) ∧ Below w.heap.size w w' := by
  exact both b0 q0 c0 l0 a1 w bw0 r0 f0 w1

theorem door_met (os : Os) (args : Array Value) : laidMetH Tryz.prog Rows.fnExactAnswerRow.laid ((World.doorLaid Tryz.prog 400 os).forCall (fun _ _ => 0) ⟨#[], args, []⟩).memory :=
  laidMetH_of_parts3 (fuel := 8) (laidMet_of_run' 8 (by kernel_rfl) (by kernel_rfl)) (by kernel_rfl) (by kernel_rfl)
/-! ### THE ROW's STEP -/
set_option maxRecDepth 100000 in
theorem lifted (os : Os) (started : os.Started) (H : Type) (enc : TypeId × Value → H) :
    ReturnsInHanded {} Tryz.checked os 3 .any (fun w args => (Rows.fnExactAnswerSpec.pre enc Tryz.prog Tryz.f3 [] false w args ∧ laidMetH Tryz.prog Rows.fnExactAnswerRow.laid w) ∧ sizedMet enc Tryz.prog Tryz.f3 (OpenSpec.ofChange Rows.fnExactAnswerSpec) false w args)
      (Rows.fnExactAnswerSpec.post enc Tryz.prog Tryz.f3 false true false false) := by
  refine returnsInHanded_of_change_and (C := Tryz.checked) (X := fun w _ => laidMetH Tryz.prog Rows.fnExactAnswerRow.laid w) (fun _ _ _ hh h => h.of_heap hh) own started (by kernel_rfl) Tryz.func3
    (ChangeSpec.witness_shaped (enc := enc) (C := Tryz.checked) (os := os) (X := fun w _ => laidMetH Tryz.prog Rows.fnExactAnswerRow.laid w) false (World.doorLaid Tryz.prog 400 os) #[.agg #[.int .i64 0, .int .i64 0, .int .i64 0, .int .i64 0, .int .i64 0, .int .i64 0, .int .i64 0, .int .i64 0, .int .i64 0, .int .i64 0, .int .i64 0, .int .i64 0, .int .i64 0, .int .i64 0, .int .i64 0, .int .i64 0, .int .i64 0, .int .i64 0, .slice none 0 0, .int .i64 0, .int .i64 0, .string ByteArray.empty, .int .i64 0, .string ByteArray.empty, .int .i64 0, .int .i64 0, .int .i64 0, .int .i64 0, .int .i64 0, .int .i64 0], .int .i64 0] 8 rfl (World.shaped_of_RefB (by kernel_rfl) (by kernel_rfl)) (by kernel_rfl) (by kernel_rfl) (by kernel_rfl) (door_met os _)) ?_
  intro W base args ds gs before hval0 hW _ _ hL _
  have hval : ∀ (j : Nat) t v, Tryz.f3.params[j]? = some t → args[j]? = some v → Value.okWide Tryz.prog W .any base t v := hval0
  have hW' := hW
  obtain ⟨p, q, hA0, hV, rfl, hfz, hnd⟩ := hW
  have hA : DataW.TrodAll enc Tryz.prog W 0 (fun _ => true) true Tryz.f3.params.toList args.toList ds p := hA0
  rw [Tryz.params3] at hA hval
  obtain ⟨v0, vs0, d0, ds0, p0, s0, hargs, rfl, rfl, h0, t0⟩ := trodAll_cons hA
  obtain ⟨v1, vs1, d1, ds1, p1, s1, rfl, rfl, rfl, h1, t1⟩ := trodAll_cons t0
  obtain ⟨rfl, rfl, rfl⟩ := trodAll_nil t1
  obtain rfl : args = #[v0, v1] := by cases args; simp_all
  obtain ⟨gx, tx, csx, fx, ex, qx, rfl, _⟩ := trodVars_one hV
  have k0 := h0
  have lt0 : ∀ x ∈ p0, x.block < W.heap.size := by obtain ⟨m, hm⟩ := k0; exact DataW.trod_lt m _ _ _ hm
  obtain ⟨b0, q0, l0, c0, rfl, bw0, r0, f0⟩ := open_box Tryz.underlying29 (by kernel_rfl) rfl (by kernel_rfl) Tryz.underlying24 Tryz.underlying22 (by kernel_rfl) (by kernel_rfl) Tryz.underlying3 rfl (by kernel_rfl) Tryz.underlying3 Tryz.underlying3 Tryz.underlying27 (by kernel_rfl) Tryz.underlying25 Tryz.underlying78 (by kernel_rfl) (by kernel_rfl) Tryz.underlying3 Tryz.underlying3 Tryz.underlying9 (by kernel_rfl) (hval 0 29 v0 rfl rfl) h0
  obtain ⟨a1, rfl, rfl, rfl, w1⟩ := open_int Tryz.underlying3 (hval 1 3 v1 rfl rfl) h1
  clear hA0 hval0
  refine (walk b0 q0 c0 l0 a1 W bw0 r0 f0 w1 hL).mono fun e W' ⟨he, hg⟩ => ?_
  subst he
  exact ⟨_, rfl, _, _, _, [], _, _, hW', trodAll_mk1 (shut_bool Tryz.underlying4 _), (trodAll_cons_mk (Below.trod laidOut (by kernel_rfl) (of_decide_eq_true (by kernel_rfl)) k0 hg lt0) (trodAll_cons_mk (shut_int Tryz.underlying3 w1) trodAll_mk0)), Below.trodVars laidOut hg (by kernel_rfl) hV, hg.frame _, fun h => by cases h⟩

theorem over : Rows.fnExactAnswerRow.holds Tryz.pinned (OpenSpec.ofChange Rows.fnExactAnswerSpec) :=
  OpenClaim.holds_of_wide 3 Tryz.f3 rfl rfl rfl rfl rfl rfl rfl ⟨rfl, rfl, rfl, rfl, rfl⟩ rfl rfl rfl rfl rfl (by kernel_rfl) Tryz.func3 (by kernel_rfl)
    (of_decide_eq_true (by kernel_rfl)) (by unfold Func.isWrapper; first | (rw [if_pos (by decide +kernel)]; kernel_rfl) | (rw [if_neg (by decide +kernel)]; exact ⟨rfl, rfl⟩))
    (fun os started H enc _ => lifted os started H enc)

theorem plain (f : FuncId) (fn : Func) (hf : Tryz.pinned.checked.prog.funcNamed "loop.example/g00664/laws.FnExactAnswer" = some f) (hfn : Tryz.pinned.checked.prog.funcs[f]? = some fn) :
    true = Tryz.pinned.checked.prog.looks [] ∧ ∀ (j : Nat) t, fn.params[j]? = some t → Tryz.pinned.checked.prog.wantsStandIn t = false := by
  obtain rfl : f = 3 := Option.some.inj ((show Tryz.prog.funcNamed "loop.example/g00664/laws.FnExactAnswer" = some 3 by kernel_rfl).symm.trans hf) |>.symm
  obtain rfl : fn = Tryz.f3 := (Option.some.inj (Tryz.func3.symm.trans hfn)).symm
  refine ⟨by kernel_rfl, fun j t ht => ?_⟩
  rw [Tryz.params3] at ht
  have hm := Array.mem_of_getElem? ht
  simp only [List.mem_toArray, List.mem_cons, List.not_mem_nil, or_false] at hm
  rcases hm with rfl | rfl
  · exact (show Tryz.prog.wantsStandIn 29 = false by kernel_rfl)
  · exact (show Tryz.prog.wantsStandIn 3 = false by kernel_rfl)
/-- THE CARD -/
theorem card : Rows.FnExactAnswerCardSaid :=
  Claim7.holds_tied_plain_at .later [] _ _ _ _ over (fun _ h => by cases h) (by kernel_rfl) (fun _ h => by cases h) fnExactAnswer_row_tie rfl ⟨rfl, rfl⟩ (by kernel_rfl) rfl plain (by kernel_rfl)
#print axioms card
end Go.Proofs.YtbkgmpkednkbcaaGreatDoor.fnExactAnswer
