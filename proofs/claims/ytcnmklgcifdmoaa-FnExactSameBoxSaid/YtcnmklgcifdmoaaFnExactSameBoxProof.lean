/-
  Proved: for every two boxes (a processor, pages, numbers and texts each), laws.FnExactSameBox returns true (impl.SameBox answers as spec.SameBox, and leaves its arguments as they were), with no condition.
-/
import Derived.Test.YtcnmklgcifdmoaaRows
import Derived.WalkKit
import Derived.ProofKit
import Derived.OpenShut
import Derived.ShutString
import Derived.Test.YtcnmklgcifdmoaaWalkBoxE2
import Derived.Test.YtcnmklgcifdmoaaWalkBoxE3
import Derived.Deep.RegionHeld3
import Derived.ChangeOld
import Derived.Below
import Derived.Test.YtcnmklgcifdmoaaOpenBox
namespace Go.Proofs.Ytcnmklgcifdmoaa.fnExactSameBox
open Go.ChangeShapes Go.WideShapes Go.ChangeAt Go.RowKit
open Go.ChangeMaps (open_string shut_string)
set_option linter.unusedVariables false

theorem own : ownKnob Try.prog.godebug = none := by kernel_rfl
theorem laidOut : laidOutB Try.prog = true := by kernel_rfl

theorem loadLB {W : World} {b : Nat} {V : Array Value} (h : W.heap[b]? = some (.cells V 52 (0, 0))) (hV : V.size = 30) : (Instr.loadAt 52 (.pointer (some ⟨b, 0, none⟩))).run Try.prog W = .ok (.agg V) W := by
  simp only [Instr.loadAt, Instr.sureAddr, Sem.run_bind, Sem.run_pure, Result.andThen_ok]
  exact run_loadVar_row W b 52 52 V (0, 0) _ h Try.underlying52 rfl (by rw [hV]; kernel_rfl)
theorem loadIB {W : World} {b : Nat} {V : Array Value} (h : W.heap[b]? = some (.cells V 38 (0, 0))) (hV : V.size = 30) : (Instr.loadAt 38 (.pointer (some ⟨b, 0, none⟩))).run Try.prog W = .ok (.agg V) W := by
  simp only [Instr.loadAt, Instr.sureAddr, Sem.run_bind, Sem.run_pure, Result.andThen_ok]
  exact run_loadVar_row W b 38 38 V (0, 0) _ h Try.underlying38 rfl (by rw [hV]; kernel_rfl)
/-- the law's two boxes -/
structure SL (w : World) (Va Vb : Array Value) (qa qb : Option Addr) (la lb : List Pg) (W : World) : Prop where
  a : W.heap[w.heap.size]? = some (.cells Va 52 (0, 0))
  b : W.heap[w.heap.size + 1]? = some (.cells Vb 52 (0, 0))
  ra : Rd W qa la
  rb : Rd W qb lb
  be : Below w.heap.size w W
theorem SL.call {w W W' : World} {Va Vb : Array Value} {qa qb : Option Addr} {la lb : List Pg} (h : SL w Va Vb qa qb la lb W) (hb : Below W.heap.size W W') : SL w Va Vb qa qb la lb W' :=
  ⟨(hb.block _ (lt_of_blk' h.a)).trans h.a, (hb.block _ (lt_of_blk' h.b)).trans h.b, h.ra.below hb, h.rb.below hb, h.be.trans (hb.mono h.be.size)⟩
/-- a copy of a box -/
structure SX (n : Nat) (X : Array Value) (g : Nat) (l : List Pg) (W : World) : Prop where
  x : W.heap[n]? = some (.cells X 38 (0, 0))
  r : Rd W (some ⟨g, 0, none⟩) l
theorem SX.call {n g : Nat} {X : Array Value} {l : List Pg} {W W' : World} (h : SX n X g l W) (hb : Below W.heap.size W W') : SX n X g l W' := ⟨(hb.block _ (lt_of_blk' h.x)).trans h.x, h.r.below hb⟩
structure SM (w : World) (Va Vb : Array Value) (qa qb : Option Addr) (la lb : List Pg) (n m : Nat) (Xa Xb : Array Value) (ga gb : Nat) (W : World) : Prop where
  s : SL w Va Vb qa qb la lb W
  x : SX n Xa ga la W
  y : SX m Xb gb lb W
theorem SM.call {w W W' : World} {Va Vb : Array Value} {qa qb : Option Addr} {la lb : List Pg} {n m : Nat} {Xa Xb : Array Value} {ga gb : Nat} (h : SM w Va Vb qa qb la lb n m Xa Xb ga gb W) (hb : Below W.heap.size W W') : SM w Va Vb qa qb la lb n m Xa Xb ga gb W' := ⟨h.s.call hb, h.x.call hb, h.y.call hb⟩
attribute [-go_sem] Instr.loadAt in
set_option maxRecDepth 100000 in
set_option maxHeartbeats 8000000 in
theorem both (a b : Bo) (qa qb : Option Addr) (ca cb : Nat) (la lb : List Pg) (w : World) (bwa : BoW a) (bwb : BoW b) (ra : Rd w qa la) (rb : Rd w qb lb) (fa : Fits la) (fb : Fits lb) :
    Calls Try.prog 6 #[.agg (boV a (.slice qa la.length ca)), .agg (boV b (.slice qb lb.length cb))] w fun e w' => e = .returned (.bool true) ∧ Below w.heap.size w w' := by
  have hm := mixed
  obtain ⟨va, hva, hIa, hSa⟩ := cpuI a.c bwa.c
  obtain ⟨vb, hvb, hIb, hSb⟩ := cpuI b.c bwb.c
  obtain ⟨n1, n2, n3⟩ := two_new w (boV a (.slice qa la.length ca)) (boV b (.slice qb lb.length cb)) 52
  have S0 : Hid (SL w (boV a (.slice qa la.length ca)) (boV b (.slice qb lb.length cb)) qa qb la lb _) := Lib.hid ⟨n1, n2, ra.below n3, rb.below n3, n3⟩
  have CZa := Lib.hid (fun W left hR h0 h1 => szBoxC a qa ca la left W hR fa bwa.inp bwa.out_ h0 h1)
  have CZb := Lib.hid (fun W left hR h0 h1 => szBoxC b qb cb lb left W hR fb bwb.inp bwb.out_ h0 h1)
  have CTa := Lib.hid (fun W hR hs => toBoxC a qa ca la W hR hs)
  have CTb := Lib.hid (fun W hR hs => toBoxC b qb cb lb W hR hs)
  have CS := Lib.hid (fun g1 g2 W hR hR' => sameBoxS a b (some ⟨g1, 0, none⟩) (some ⟨g2, 0, none⟩) la.length lb.length la lb va vb W hva hvb hSa hSb fa fb hR hR')
  have CI := Lib.hid (fun g1 g2 W hs hR hR' => sameBoxI a b g1 la.length g2 lb.length la lb va W hva hIa hs fb.1 hR hR')
  have CEa := Lib.hid (fun g1 g2 W hR hR' => eqBoxC a (some ⟨g1, 0, none⟩) (some ⟨g2, 0, none⟩) la.length la.length la W fa.1 hR hR')
  have CEb := Lib.hid (fun g1 g2 W hR hR' => eqBoxC b (some ⟨g1, 0, none⟩) (some ⟨g2, 0, none⟩) lb.length lb.length lb W fb.1 hR hR')
  have sa : (boV a (.slice qa la.length ca)).size = 30 := rfl
  have sb : (boV b (.slice qb lb.length cb)).size = 30 := rfl
  have I30 := Lib.hid (show (Try.prog.info? 52).map (·.size) = some 30 by kernel_rfl)
  have J30 := Lib.hid (show (Try.prog.info? 38).map (·.size) = some 30 by kernel_rfl)
  generalize boV a (.slice qa la.length ca) = Va at *
  generalize boV b (.slice qb lb.length cb) = Vb at *
  clear n1 n2 n3 ra rb fa fb bwa bwb hva hvb hIa hIb hSa hSb
  have SA := Lib.hid sa; have SB := Lib.hid sb
  have HLa : ∀ u, SL w Va Vb qa qb la lb u → (Instr.loadAt 52 (.pointer (some ⟨w.heap.size, 0, none⟩))).run Try.prog u = .ok (.agg Va) u := fun u h => loadLB h.a sa
  have HLb : ∀ u, SL w Va Vb qa qb la lb u → (Instr.loadAt 52 (.pointer (some ⟨w.heap.size + 1, 0, none⟩))).run Try.prog u = .ok (.agg Vb) u := fun u h => loadLB h.b sb
  clear sa sb
  go_enter Try.func6, Try.ntmps6
  go_wp2_with (refine wpList_load_row rfl 52 (.tmp 2) rfl w.heap.size rfl 52 Va (0, 0) _ S0.out.a Try.underlying52 rfl (by rw [SA.out]; exact I30.out) ?_)
  refine (CZa.out _ 1048576 S0.out.ra (by omega) (by omega)).mono ?_
  rintro e w1 ⟨r, rfl, HQ, b1⟩
  have S1 := Lib.hid (S0.out.call b1)
  clear b1 S0
  by_cases hneg : r < 0
  · go_wp2
    go_ret
    exact ⟨rfl, S1.out.be⟩
  have hd : decide (r < 0) = false := decide_eq_false hneg
  have HSa := Lib.hid (HQ.out.2.2 (by omega))
  have HR : Hid (0 ≤ r ∧ r ≤ 1048576) := Lib.hid ⟨by omega, HQ.out.2.1⟩
  clear hneg HQ CZa
  go_wp2_with (refine wpList_load_row rfl 52 (.tmp 3) rfl (w.heap.size + 1) rfl 52 Vb (0, 0) _ S1.out.b Try.underlying52 rfl (by rw [SB.out]; exact I30.out) ?_)
  refine (CZb.out _ r S1.out.rb HR.out.1 HR.out.2).mono ?_
  rintro e w2 ⟨r2, rfl, HQ, b1⟩
  have S2 := Lib.hid (S1.out.call b1)
  clear b1 S1
  by_cases hneg : r2 < 0
  · go_wp2
    go_ret
    exact ⟨rfl, S2.out.be⟩
  have hd2 : decide (r2 < 0) = false := decide_eq_false hneg
  have HSb := Lib.hid (HQ.out.2.2 (by omega))
  clear hneg HQ CZb
  have s3 : SL w Va Vb qa qb la lb w2.drew := S2.out.call (below_drew1 w2)
  have S3 := Lib.hid s3
  have C3 := Lib.hid (CTa.out w2.drew S3.out.ra HSa.out.1)
  go_wp2_with fail
  go_region_held3 (fun W' => SL w Va Vb qa qb la lb W') (first | (with_reducible exact s3) | (with_reducible exact S2.out) | (with_reducible exact s4) | (with_reducible exact s5) | (with_reducible exact s6) | go_keep) (first | (go_at_call 18; (with_reducible refine Calls.mono (C3.out) ?_); rintro e w4 ⟨g4, rfl, o4, b4⟩; have s4 := S3.out.call b4; have S4 := Lib.hid s4; have O4 := Lib.hid (Rd.of_own o4); have C4 := Lib.hid (CTb.out w4 S4.out.rb HSb.out.1); clear o4 b4) | (go_at_call 18; (with_reducible refine Calls.mono (C4.out) ?_); rintro e w5 ⟨g5, rfl, o5, b5⟩; have s5 := S4.out.call b5; have S5 := Lib.hid s5; have O5 := Lib.hid (Rd.of_own o5); have Q5 := Lib.hid (O4.out.below b5); have C5 := Lib.hid (CS.out g4 g5 w5 Q5.out O5.out); clear o5 b5) | (go_at_call 25; (with_reducible refine Calls.mono (C5.out) ?_); rintro e w6 ⟨⟨r6, rfl, HR6⟩, b6⟩; have s6 := S5.out.call b6; have S6 := Lib.hid s6; clear b6))
  clear s3 s4 s5 C3 C4 C5 S2 S3 S4 S5 O4 O5 Q5 CS HLa HLb
  go_wp2_with (refine wpList_load_row rfl 52 (.tmp 2) rfl w.heap.size rfl 52 Va (0, 0) _ S6.out.a Try.underlying52 rfl (by rw [SA.out]; exact I30.out) ?_)
  refine (CTa.out _ S6.out.ra HSa.out.1).mono ?_
  rintro e w7 ⟨g7, rfl, o7, b7⟩
  have S7 := Lib.hid (S6.out.call b7)
  have O7 := Lib.hid (Rd.of_own o7)
  clear o7 b7 s6 S6
  have hXa : Hid ((boV a (.slice (some ⟨g7, 0, none⟩) la.length la.length)).all (·.oneCell') = true) := Lib.hid (boV_one a _ _ _)
  have sx : Hid ((boV a (.slice (some ⟨g7, 0, none⟩) la.length la.length)).size = 30) := Lib.hid rfl
  obtain ⟨Xa, eXa⟩ : ∃ X, boV a (.slice (some ⟨g7, 0, none⟩) la.length la.length) = X := ⟨_, rfl⟩
  have EXa := Lib.hid eXa
  rw [eXa] at hXa sx ⊢
  clear eXa
  go_upto_region 10 with (first | (refine wpList_store_row rfl 38 (.tmp 7) (.tmp 26) rfl w7.heap.size Xa rfl rfl 38 _ (heap_alloc_new w7 _) (by rw [sx.out]; exact J30.out) (by rw [sx.out]; rfl) hXa.out ?_; generalize hU : (w7.alloc (.cells #[.int .i64 0, .int .i64 0, .int .i64 0, .int .i64 0, .int .i64 0, .int .i64 0, .int .i64 0, .int .i64 0, .int .i64 0, .int .i64 0, .int .i64 0, .int .i64 0, .int .i64 0, .int .i64 0, .int .i64 0, .int .i64 0, .int .i64 0, .int .i64 0, .slice none 0 0, .int .i64 0, .int .i64 0, .string ⟨#[]⟩, .int .i64 0, .string ⟨#[]⟩, .int .i64 0, .int .i64 0, .int .i64 0, .int .i64 0, .int .i64 0, .int .i64 0] 38)).setRow w7.heap.size Xa = U))
  have bU : Below w7.heap.size w7 U := by rw [← hU]; exact Go.below_setRow (below1 w7 _) (Nat.le_refl _) Xa
  have X8 : Hid (SX w7.heap.size Xa g7 la U) := Lib.hid ⟨by rw [← hU]; exact setRow_heap _ _ _ Xa _ _ (heap_alloc_new w7 _), O7.out.below bU⟩
  have S8 := Lib.hid (S7.out.call bU)
  clear hU bU S7 O7
  go_wp2_with (refine wpList_load_row rfl 52 (.tmp 3) rfl (w.heap.size + 1) rfl 52 Vb (0, 0) _ S8.out.b Try.underlying52 rfl (by rw [SB.out]; exact I30.out) ?_)
  refine (CTb.out _ S8.out.rb HSb.out.1).mono ?_
  rintro e w9 ⟨g9, rfl, o9, b9⟩
  have S9 := Lib.hid (S8.out.call b9)
  have X9 := Lib.hid (X8.out.call b9)
  have O9 := Lib.hid (Rd.of_own o9)
  clear o9 b9 S8 X8
  have hXb : Hid ((boV b (.slice (some ⟨g9, 0, none⟩) lb.length lb.length)).all (·.oneCell') = true) := Lib.hid (boV_one b _ _ _)
  have sy : Hid ((boV b (.slice (some ⟨g9, 0, none⟩) lb.length lb.length)).size = 30) := Lib.hid rfl
  obtain ⟨Xb, eXb⟩ : ∃ X, boV b (.slice (some ⟨g9, 0, none⟩) lb.length lb.length) = X := ⟨_, rfl⟩
  have EXb := Lib.hid eXb
  rw [eXb] at hXb sy ⊢
  clear eXb
  go_upto_region 11 with (first | (refine wpList_store_row rfl 38 (.tmp 8) (.tmp 28) rfl w9.heap.size Xb rfl rfl 38 _ (heap_alloc_new w9 _) (by rw [sy.out]; exact J30.out) (by rw [sy.out]; rfl) hXb.out ?_; generalize hU : (w9.alloc (.cells #[.int .i64 0, .int .i64 0, .int .i64 0, .int .i64 0, .int .i64 0, .int .i64 0, .int .i64 0, .int .i64 0, .int .i64 0, .int .i64 0, .int .i64 0, .int .i64 0, .int .i64 0, .int .i64 0, .int .i64 0, .int .i64 0, .int .i64 0, .int .i64 0, .slice none 0 0, .int .i64 0, .int .i64 0, .string ⟨#[]⟩, .int .i64 0, .string ⟨#[]⟩, .int .i64 0, .int .i64 0, .int .i64 0, .int .i64 0, .int .i64 0, .int .i64 0] 38)).setRow w9.heap.size Xb = U2))
  have bU : Below w9.heap.size w9 U2 := by rw [← hU]; exact Go.below_setRow (below1 w9 _) (Nat.le_refl _) Xb
  have M0 : Hid (SM w Va Vb qa qb la lb w7.heap.size w9.heap.size Xa Xb g7 g9 U2) := Lib.hid ⟨S9.out.call bU, X9.out.call bU, by rw [← hU]; exact setRow_heap _ _ _ Xb _ _ (heap_alloc_new w9 _), O9.out.below bU⟩
  clear hU bU S9 O9 X9
  have C10 := CI.out g7 g9 U2 HSa.out.1 M0.out.x.r M0.out.y.r
  rw [EXa.out, EXb.out] at C10
  have C10' := Lib.hid C10
  clear C10 CI
  go_wp2_with (first | (refine wpList_load_row rfl 38 (.tmp 7) rfl w7.heap.size rfl 38 Xa (0, 0) _ M0.out.x.x Try.underlying38 rfl (by rw [sx.out]; exact J30.out) ?_) | (refine wpList_load_row rfl 38 (.tmp 8) rfl w9.heap.size rfl 38 Xb (0, 0) _ M0.out.y.x Try.underlying38 rfl (by rw [sy.out]; exact J30.out) ?_))
  refine (C10'.out).mono ?_
  rintro e w11 ⟨⟨r11, rfl, HR11⟩, b11⟩
  have er : r11 = r6 := by
    have h1 := HR11.out.trans HR6.out.symm
    cases r11 <;> cases r6 <;> simp_all
  subst er
  have m1 : SM w Va Vb qa qb la lb w7.heap.size w9.heap.size Xa Xb g7 g9 w11.drew := M0.out.call (bthen b11 (below_drew1 w11))
  have m0 : SM w Va Vb qa qb la lb w7.heap.size w9.heap.size Xa Xb g7 g9 w11 := M0.out.call b11
  have M1 := Lib.hid m1
  have HMa : ∀ u, SM w Va Vb qa qb la lb w7.heap.size w9.heap.size Xa Xb g7 g9 u → (Instr.loadAt 52 (.pointer (some ⟨w.heap.size, 0, none⟩))).run Try.prog u = .ok (.agg Va) u := fun u h => loadLB h.s.a SA.out
  have HMb : ∀ u, SM w Va Vb qa qb la lb w7.heap.size w9.heap.size Xa Xb g7 g9 u → (Instr.loadAt 52 (.pointer (some ⟨w.heap.size + 1, 0, none⟩))).run Try.prog u = .ok (.agg Vb) u := fun u h => loadLB h.s.b SB.out
  have HMx : ∀ u, SM w Va Vb qa qb la lb w7.heap.size w9.heap.size Xa Xb g7 g9 u → (Instr.loadAt 38 (.pointer (some ⟨w7.heap.size, 0, none⟩))).run Try.prog u = .ok (.agg Xa) u := fun u h => loadIB h.x.x sx.out
  have HMy : ∀ u, SM w Va Vb qa qb la lb w7.heap.size w9.heap.size Xa Xb g7 g9 u → (Instr.loadAt 38 (.pointer (some ⟨w9.heap.size, 0, none⟩))).run Try.prog u = .ok (.agg Xb) u := fun u h => loadIB h.y.x sy.out
  clear b11 M0 C10'
  have C12 := Lib.hid (CTa.out w11.drew M1.out.s.ra HSa.out.1)
  go_wp2_with fail
  go_region_held3 (fun W' => SM w Va Vb qa qb la lb w7.heap.size w9.heap.size Xa Xb g7 g9 W') (first | (with_reducible exact m0) | (with_reducible exact m1) | (with_reducible exact m2) | (with_reducible exact m3) | go_keep) (first | (go_at_call 18; (with_reducible refine Calls.mono (C12.out) ?_); rintro e w12 ⟨g12, rfl, o12, b12⟩; have m2 := M1.out.call b12; have M2 := Lib.hid m2; have O12 := Lib.hid (Rd.of_own o12); have C13 := Lib.hid (EXa.out ▸ CEa.out g7 g12 w12 M2.out.x.r O12.out); clear o12 b12) | (go_at_call 11; (with_reducible refine Calls.mono (C13.out) ?_); rintro e w13 ⟨rfl, b13⟩; have m3 := M2.out.call b13; have M3 := Lib.hid m3; clear b13))
  have m4 : SM w Va Vb qa qb la lb w7.heap.size w9.heap.size Xa Xb g7 g9 w13.drew := M3.out.call (below_drew1 w13)
  have M4 := Lib.hid m4
  clear m0 m1 m2 M1 M2 C12 C13
  have C14 := Lib.hid (CTb.out w13.drew M4.out.s.rb HSb.out.1)
  go_wp2_with fail
  go_region_held3 (fun W' => SM w Va Vb qa qb la lb w7.heap.size w9.heap.size Xa Xb g7 g9 W') (first | (with_reducible exact m3) | (with_reducible exact m4) | (with_reducible exact m5) | (with_reducible exact m6) | go_keep) (first | (go_at_call 18; (with_reducible refine Calls.mono (C14.out) ?_); rintro e w14 ⟨g14, rfl, o14, b14⟩; have m5 := M4.out.call b14; have M5 := Lib.hid m5; have O14 := Lib.hid (Rd.of_own o14); have C15 := Lib.hid (EXb.out ▸ CEb.out g9 g14 w14 M5.out.y.r O14.out); clear o14 b14) | (go_at_call 11; (with_reducible refine Calls.mono (C15.out) ?_); rintro e w15 ⟨rfl, b15⟩; have m6 := M5.out.call b15; have M6 := Lib.hid m6; clear b15))
  clear m3 m4 m5 m6 HMa HMb HMx HMy
  go_wp2
  go_ret
  exact ⟨rfl, M6.out.s.be⟩
set_option maxHeartbeats 1000000 in
set_option maxRecDepth 100000 in
theorem walk (b0 : Bo) (q0 : Option Addr) (c0 : Nat) (l0 : List Pg) (b1 : Bo) (q1 : Option Addr) (c1 : Nat) (l1 : List Pg) (w : World) (bw0 : BoW b0) (r0 : Rd w q0 l0) (f0 : Fits l0) (bw1 : BoW b1) (r1 : Rd w q1 l1) (f1 : Fits l1) :
    Calls Try.prog 6 #[.agg (boV b0 (.slice q0 l0.length c0)), .agg (boV b1 (.slice q1 l1.length c1))] w fun e w' => e = .returned (.bool true) ∧ Below w.heap.size w w' := by
  exact both b0 b1 q0 q1 c0 c1 l0 l1 w bw0 bw1 r0 r1 f0 f1

/-! ### THE ROW's STEP -/
set_option maxRecDepth 100000 in
theorem lifted (os : Os) (started : os.Started) (H : Type) (enc : TypeId × Value → H) :
    ReturnsInHanded {} Try.checked os 6 .any (Rows.fnExactSameBoxSpec.pre6 enc Try.prog Try.f6 Rows.fnExactSameBoxRow.domain false) (Rows.fnExactSameBoxSpec.post enc Try.prog Try.f6 false true false false) := by
  refine returnsInHanded_of_change (C := Try.checked) own started (by kernel_rfl) Try.func6
    (ChangeSpec.witness6 (enc := enc) (C := Try.checked) false ⟨#[], #[.agg #[.int .i64 0, .int .i64 0, .int .i64 0, .int .i64 0, .int .i64 0, .int .i64 0, .int .i64 0, .int .i64 0, .int .i64 0, .int .i64 0, .int .i64 0, .int .i64 0, .int .i64 0, .int .i64 0, .int .i64 0, .int .i64 0, .int .i64 0, .int .i64 0, .slice none 0 0, .int .i64 0, .int .i64 0, .string ByteArray.empty, .int .i64 0, .string ByteArray.empty, .int .i64 0, .int .i64 0, .int .i64 0, .int .i64 0, .int .i64 0, .int .i64 0], .agg #[.int .i64 0, .int .i64 0, .int .i64 0, .int .i64 0, .int .i64 0, .int .i64 0, .int .i64 0, .int .i64 0, .int .i64 0, .int .i64 0, .int .i64 0, .int .i64 0, .int .i64 0, .int .i64 0, .int .i64 0, .int .i64 0, .int .i64 0, .int .i64 0, .slice none 0 0, .int .i64 0, .int .i64 0, .string ByteArray.empty, .int .i64 0, .string ByteArray.empty, .int .i64 0, .int .i64 0, .int .i64 0, .int .i64 0, .int .i64 0, .int .i64 0]], []⟩ 8 (by kernel_rfl) (by kernel_rfl) (by kernel_rfl) (by kernel_rfl)) ?_
  intro W base args ds gs before hval0 hW hcnd _
  have hval : ∀ (j : Nat) t v, Try.f6.params[j]? = some t → args[j]? = some v → Value.okWide Try.prog W .any base t v := hval0
  have hW' := hW
  obtain ⟨p, q, hA0, hV, rfl, hfz, hnd⟩ := hW
  have hA : DataW.TrodAll enc Try.prog W 0 (fun _ => true) true Try.f6.params.toList args.toList ds p := hA0
  rw [Try.params6] at hA hval
  obtain ⟨v0, vs0, d0, ds0, p0, s0, hargs, rfl, rfl, h0, t0⟩ := trodAll_cons hA
  obtain ⟨v1, vs1, d1, ds1, p1, s1, rfl, rfl, rfl, h1, t1⟩ := trodAll_cons t0
  obtain ⟨rfl, rfl, rfl⟩ := trodAll_nil t1
  obtain rfl : args = #[v0, v1] := by cases args; simp_all
  obtain ⟨rfl, rfl⟩ := trodVars_none hV
  have k0 := h0
  have lt0 : ∀ x ∈ p0, x.block < W.heap.size := by obtain ⟨m, hm⟩ := k0; exact DataW.trod_lt m _ _ _ hm
  obtain ⟨b0, q0, l0, c0, rfl, bw0, r0, f0⟩ := open_box Try.underlying52 (by kernel_rfl) rfl (by kernel_rfl) Try.underlying50 Try.underlying31 (by kernel_rfl) (by kernel_rfl) Try.underlying3 rfl (by kernel_rfl) Try.underlying3 Try.underlying3 Try.underlying24 (by kernel_rfl) Try.underlying22 Try.underlying103 (by kernel_rfl) (by kernel_rfl) Try.underlying3 Try.underlying3 Try.underlying9 (by kernel_rfl) (hval 0 52 v0 rfl rfl) h0
  have k1 := h1
  have lt1 : ∀ x ∈ p1, x.block < W.heap.size := by obtain ⟨m, hm⟩ := k1; exact DataW.trod_lt m _ _ _ hm
  obtain ⟨b1, q1, l1, c1, rfl, bw1, r1, f1⟩ := open_box Try.underlying52 (by kernel_rfl) rfl (by kernel_rfl) Try.underlying50 Try.underlying31 (by kernel_rfl) (by kernel_rfl) Try.underlying3 rfl (by kernel_rfl) Try.underlying3 Try.underlying3 Try.underlying24 (by kernel_rfl) Try.underlying22 Try.underlying103 (by kernel_rfl) (by kernel_rfl) Try.underlying3 Try.underlying3 Try.underlying9 (by kernel_rfl) (hval 1 52 v1 rfl rfl) h1
  clear hA0 hval0
  refine (walk b0 q0 c0 l0 b1 q1 c1 l1 W bw0 r0 f0 bw1 r1 f1).mono fun e W' ⟨he, bel⟩ => ?_
  subst he
  exact ⟨_, rfl, _, _, _, [], _, [], hW', trodAll_mk1 (shut_bool Try.underlying4 _), (trodAll_cons_mk (Below.trod laidOut (by kernel_rfl) (of_decide_eq_true (by kernel_rfl)) k0 bel lt0) (trodAll_cons_mk (Below.trod laidOut (by kernel_rfl) (of_decide_eq_true (by kernel_rfl)) k1 bel lt1) trodAll_mk0)), rfl, bel.frame _, fun h => by cases h⟩

theorem over : Rows.fnExactSameBoxRow.holds Try.pinned (OpenSpec.ofChange Rows.fnExactSameBoxSpec) :=
  OpenClaim.holds_of_wide 6 Try.f6 rfl rfl rfl rfl rfl rfl rfl ⟨rfl, rfl, rfl, rfl, rfl⟩ rfl rfl rfl rfl rfl (by kernel_rfl) Try.func6 (by kernel_rfl)
    (of_decide_eq_true (by kernel_rfl)) (by unfold Func.isWrapper; first | (rw [if_pos (by decide +kernel)]; kernel_rfl) | (rw [if_neg (by decide +kernel)]; exact ⟨rfl, rfl⟩))
    (fun os started H enc _ => lifted os started H enc)

/-- ████ THE STATEMENT ████ -/
theorem proved : Rows.FnExactSameBoxSaid := over
#print axioms proved
end Go.Proofs.Ytcnmklgcifdmoaa.fnExactSameBox
