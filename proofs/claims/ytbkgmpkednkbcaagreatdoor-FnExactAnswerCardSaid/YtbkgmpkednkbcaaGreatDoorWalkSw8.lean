/-
  What the specification's l12Own, l12Ask and l12Write answer; conditions: those in each head.
  What the specification's l12Write answers; conditions: those in each head.
  What the specification's l12Read answers; conditions: those in each head.
  What the specification's l12Break answers; conditions: those in each head.
  What the specification's l12Answer answers; conditions: those in each head.
  What the specification's l12Answer answers: the break, the clock, a random number, and what is no service; conditions: those in each head.
  What the specification's l12Answer answers: a random number, and all of it; conditions: those in each head.
  What spec.Answer answers; conditions: those in each head.
-/
import Derived.Test.YtbkgmpkednkbcaaGreatDoorWalkSv8
namespace Go.Proofs.YtbkgmpkednkbcaaGreatDoor
open Go.RowKit Go.Sort
set_option linter.unusedVariables false
set_option linter.unusedSimpArgs false
theorem results_cell_row1 {P : Program} {fn : Func} {p : Tmp} {ty : TypeId} (h : fn.results = #[.cell p ty]) (tmps : Array Value) (w : World) (g : Nat) (t : TypeId) (cs : Array Value) (fr : Nat × Nat) (d : TypeDesc)
    (hp : tmps.getD p undef = .pointer (some ⟨g, 0, none⟩)) (hg : w.heap[g]? = some (.cells cs t fr))
    (hu : P.underlying ty = some d) (hd : (match d with | .struct _ | .array _ _ => true | _ => false) = true) (hi : (P.info? ty).map (·.size) = some cs.size) :
    (results fn tmps).run P w = .ok (.agg cs) w := by
  have e : (results fn tmps).run P w = ((asAddr (tmps.getD p undef)).run P w).andThen fun a w₁ => (loadVar ty a).run P w₁ := by
    simp only [results, h]
    simp [Sem.run_bind, Result.andThen]
  rw [e, hp]
  simp [asAddr, run_loadVar_row w g t ty cs fr d hg hu hd hi]
/-- what a service of the specification answers: another box, whose pages can be read, and a number -/
def SvSp (g : Nat) (R : Bo → List Pg → Int → Prop) (w : World) (e : Ending) (w' : World) : Prop :=
  ∃ b' l' v g' o' c', Hid (R b' l' v) ∧ e = .returned (.tuple #[.agg (boV b' (.slice (some ⟨g', o', none⟩) l'.length c')), .int .i64 v]) ∧ Hid (Rd w' (some ⟨g', o', none⟩) l') ∧ Below w.heap.size w w' ∧ (g' = g ∨ w.heap.size ≤ g')
theorem rd_row {W : World} {g : Nat} {old A : Array Value} {t : TypeId} {p : Option Addr} {l : List Pg} (h : Rd W p l) (hg : W.heap[g]? = some (.cells old t (0, 0))) (hn : ∀ b o, p = some ⟨b, o, none⟩ → b ≠ g) : Rd (W.setRow g A) p l := by
  intro k x hk
  obtain ⟨b, off, e, h0, a0, a1, a2⟩ := h k x hk
  have hf := setRow_far W g b A (hn _ _ e)
  have hc (i : Nat) : (W.setRow g A).cell? ⟨b, i, none⟩ = W.cell? ⟨b, i, none⟩ := World.cell?_of_block hf
  exact ⟨b, off, e, by have h9 : W.heap.size ≤ (W.setRow g A).heap.size := (Go.below_setRow (g := g) (Below.refl 0 W) (Nat.zero_le _) A).size; omega, (hc _).trans a0, (hc _).trans a1, (hc _).trans a2⟩
set_option maxHeartbeats 8000000 in
set_option maxRecDepth 100000 in
theorem ownBS (b : Bo) (g o c : Nat) (l : List Pg) (w : World) (hs : l.length ≤ 1048576) (hr : Rd w (some ⟨g, o, none⟩) l) :
    Calls Tryz.prog 16 #[.agg (boV b (.slice (some ⟨g, o, none⟩) l.length c))] w fun e w' => ∃ g' c', e = .returned (.agg (boV b (.slice (some ⟨g', 0, none⟩) l.length c'))) ∧ Owns w' w.heap.size (some ⟨g', 0, none⟩) c' l ∧ Below w.heap.size w w' := by
  have CO := Lib.hid (fun W hR => l02OwnC g o c l W hs hR)
  have N0 := Lib.hid (CB0.new w (boV b (.slice (some ⟨g, o, none⟩) l.length c)))
  have hO := Lib.hid (boV_one b (some ⟨g, o, none⟩) l.length c)
  have HR := Lib.hid (hr.below N0.out.be)
  have hm := mixed
  clear hr
  go_enter Tryz.func16, Tryz.ntmps16
  go_upto_region 1 with fail
  change Code.wp _ _ _ _ ((w.alloc (.cells (boV b (.slice (some ⟨g, o, none⟩) l.length c)) 36)).alloc (.cells (boV bo0 (.slice none 0 0)) 36))
  generalize hW : (w.alloc (.cells (boV b (.slice (some ⟨g, o, none⟩) l.length c)) 36)).alloc (.cells (boV bo0 (.slice none 0 0)) 36) = W at *
  clear hW
  have a18 := (cell_of_row _ _ 18 _ _ _ N0.out.a).trans (show (boV b (.slice (some ⟨g, o, none⟩) l.length c))[18]? = some (.slice (some ⟨g, o, none⟩) l.length c) from rfl)
  go_wp2_with fail
  refine (CO.out _ HR.out).mono ?_
  rintro e w2 ⟨g', c', rfl, o2, b2⟩
  have M2 := N0.out.call b2
  have lr1 := lt_of_blk' N0.out.r
  have z18 := (cell_of_row _ _ 18 _ _ _ M2.a).trans (show (boV b (.slice (some ⟨g, o, none⟩) l.length c))[18]? = some (.slice (some ⟨g, o, none⟩) l.length c) from rfl)
  have f18 : w2.frozen? ⟨w.heap.size, 18, none⟩ = false := by simp [World.frozen?, M2.a]
  have hgl := (o2.lt g' rfl).1
  have M3 : Hid (CB0 w (w2.setCell ⟨w.heap.size, 18, none⟩ (.slice (some ⟨g', 0, none⟩) l.length c')) (boV b (.slice (some ⟨g', 0, none⟩) l.length c'))) := Lib.hid (M2.set 18 _ (by rfl))
  have O3 : Hid (Owns (w2.setCell ⟨w.heap.size, 18, none⟩ (.slice (some ⟨g', 0, none⟩) l.length c')) w.heap.size (some ⟨g', 0, none⟩) c' l) := Lib.hid (Joins.ownsRow_le (owns_other2 o2 (fun j hj => by have := (o2.lt j hj).1; omega) 18 _) (by omega))
  have HG : Hid (w.heap.size + 1 < g') := Lib.hid (by omega)
  clear o2 b2 M2 N0 HR CO a18 hO
  go_upto_region 2 with fail
  generalize w2.setCell ⟨w.heap.size, 18, none⟩ (.slice (some ⟨g', 0, none⟩) l.length c') = X at *
  have hO5 := Lib.hid (boV_one b (some ⟨g', 0, none⟩) l.length c')
  clear z18 f18 lr1 hgl
  go_wp2_with (first | (refine wpList_load_row rfl 36 (.tmp 1) rfl w.heap.size rfl 36 (boV b (.slice (some ⟨g', 0, none⟩) l.length c')) (0, 0) _ M3.out.a Tryz.underlying36 rfl (by rw [boV_size]; exact info30s) ?_) | (refine wpList_store_row rfl 36 (.tmp 2) (.tmp 7) rfl (w.heap.size + 1) (boV b (.slice (some ⟨g', 0, none⟩) l.length c')) rfl rfl 36 _ M3.out.r (by rw [boV_size]; exact info30s) rfl hO5.out ?_))
  refine bodyPost_ret (v := .agg (boV b (.slice (some ⟨g', 0, none⟩) l.length c'))) (by exact results_cell_row1 Tryz.results16 _ _ (w.heap.size + 1) 36 (boV b (.slice (some ⟨g', 0, none⟩) l.length c')) (0, 0) _ rfl (setRow_heap _ _ _ _ _ _ M3.out.r) Tryz.underlying36 rfl (by rw [boV_size]; exact info30s)) (by rfl) ?_
  exact ⟨g', c', rfl, owns_row (g := w.heap.size + 1) O3.out _ (fun j e => by cases e; have := HG.out; omega), Go.below_setRow M3.out.be (by omega) _⟩
/-- what l12Ask answers -/
def AskR (b : Bo) (l : List Pg) (n k : Int) : Prop :=
  (¬ BxOk b l ∧ k = 1) ∨ (BxOk b l ∧ ¬ (0 ≤ n ∧ n < 8) ∧ k = 4) ∨ (BxOk b l ∧ (0 ≤ n ∧ n < 8) ∧ b.st ≠ 1 ∧ k = 35) ∨ (BxOk b l ∧ (0 ≤ n ∧ n < 8) ∧ b.st = 1 ∧ k = 0)
set_option maxHeartbeats 8000000 in
set_option maxRecDepth 100000 in
theorem askS (n : Int) (b : Bo) (g o c : Nat) (l : List Pg) (v : Bool) (w : World) (hv : v = true ↔ FlOK b.c.fl) (HI : ∀ w, Calls Tryz.prog 56 #[.agg (cpV b.c)] w fun e w' => e = .returned (.bool v) ∧ Below w.heap.size w w') (hf : Fits l) (hr : Rd w (some ⟨g, o, none⟩) l) :
    Calls Tryz.prog 15 #[.agg (boV b (.slice (some ⟨g, o, none⟩) l.length c)), .int .i64 n] w fun e w' => ∃ k, e = .returned (.int .i64 k) ∧ Hid (AskR b l n k) ∧ Below w.heap.size w w' := by
  have n1 := heap_alloc_new w (.cells (boV b (.slice (some ⟨g, o, none⟩) l.length c)) 36)
  have n3 := below1 w (.cells (boV b (.slice (some ⟨g, o, none⟩) l.length c)) 36)
  have a26 := (cell_of_row _ _ 26 _ _ _ n1).trans (show (boV b (.slice (some ⟨g, o, none⟩) l.length c))[26]? = some (.int .i64 b.st) from rfl)
  have CB := Lib.hid (boxS b _ c l v _ hv HI hf (hr.below n3))
  have N1 := Lib.hid n1; have N3 := Lib.hid n3; have A26 := Lib.hid a26
  clear n1 n3 a26 hv HI hf hr
  generalize hA : (boV b (.slice (some ⟨g, o, none⟩) l.length c)) = A at *
  have SZ : Hid (A.size = 30) := Lib.hid (by rw [← hA]; rfl)
  clear hA
  have CI := Lib.hid (fun W => inS n 0 7 W)
  go_enter Tryz.func15, Tryz.ntmps15
  go_wp2_with (refine wpList_load_row rfl 36 (.tmp 2) rfl w.heap.size rfl 36 A (0, 0) _ N1.out Tryz.underlying36 rfl (by rw [SZ.out]; exact info30s) ?_)
  refine (CB.out).mono ?_
  rintro e w1 ⟨⟨r, rfl, hb⟩, b1⟩
  have hx := hb.out
  have z26 := (b1.cell (p := ⟨w.heap.size, 26, none⟩) (by simp)).trans A26.out
  have L1 := Lib.hid (bthen N3.out b1)
  clear b1 CB hb
  cases r with
  | false =>
    have HNO : Hid (¬ BxOk b l) := Lib.hid (fun h => by have := hx.2 h; simp at this)
    clear hx
    go_wp2
    go_ret
    exact ⟨1, rfl, Lib.hid (.inl ⟨HNO.out, rfl⟩), L1.out⟩
  | true =>
  have HYES : Hid (BxOk b l) := Lib.hid (hx.1 (by trivial))
  clear hx
  go_wp2_with fail
  refine (CI.out _).mono ?_
  rintro e w2 ⟨rfl, rfl⟩
  by_cases hn : 0 ≤ n ∧ n ≤ 7
  rotate_left
  · rw [decide_eq_false hn]
    have HN := Lib.hid hn
    clear hn
    go_wp2
    go_ret
    exact ⟨4, rfl, Lib.hid (.inr (.inl ⟨HYES.out, fun h => HN.out ⟨h.1, by omega⟩, rfl⟩)), L1.out⟩
  rw [decide_eq_true hn]
  have HN : Hid (0 ≤ n ∧ n < 8) := Lib.hid ⟨hn.1, by omega⟩
  clear hn
  by_cases hst : b.st = 1
  · have q2 : (b.st != 1) = false := by rw [hst]; rfl
    have HST := Lib.hid hst
    clear hst
    go_wp2
    go_ret
    exact ⟨0, rfl, Lib.hid (.inr (.inr (.inr ⟨HYES.out, HN.out, HST.out, rfl⟩))), L1.out⟩
  · have q2 : (b.st != 1) = true := by simpa using hst
    have HST := Lib.hid hst
    clear hst
    go_wp2
    go_ret
    exact ⟨35, rfl, Lib.hid (.inr (.inr (.inl ⟨HYES.out, HN.out, HST.out, rfl⟩))), L1.out⟩
end Go.Proofs.YtbkgmpkednkbcaaGreatDoor
namespace Go.Proofs.YtbkgmpkednkbcaaGreatDoor
open Go.RowKit Go.Sort
set_option linter.unusedVariables false
set_option linter.unusedSimpArgs false
theorem rd_cell {W : World} {g : Nat} {p : Option Addr} {l : List Pg} (h : Rd W p l) (hn : ∀ b o, p = some ⟨b, o, none⟩ → b ≠ g) (i : Nat) (v : Value) : Rd (W.setCell ⟨g, i, none⟩ v) p l := by
  intro k x hk
  obtain ⟨b, off, e, h0, a0, a1, a2⟩ := h k x hk
  have hne := hn _ _ e
  exact ⟨b, off, e, by simpa using h0, (cellOther (by simp [Ne.symm hne]) _).trans a0, (cellOther (by simp [Ne.symm hne]) _).trans a1, (cellOther (by simp [Ne.symm hne]) _).trans a2⟩
/-- bytes that are got -/
def GetStr2 (l : List Pg) (a n : Int) : World → Value → Prop := fun _ v => ∃ T : List UInt8, v = .string ⟨T.toArray⟩ ∧ TkOut l (16384 + a) n.toNat 0 T 0
/-- the output behind them -/
def CatStr (b : Bo) (l : List Pg) : World → Value → Prop := fun _ v => ∃ T : List UInt8, v = .string (b.out_ ++ ⟨T.toArray⟩) ∧ TkOut l (16384 + pN b) (qN b).toNat 0 T 0
set_option maxHeartbeats 8000000 in
set_option maxRecDepth 100000 in
theorem wrS (b : Bo) (g o c : Nat) (l : List Pg) (w : World) (hm0 : MemOk l) (hos : b.out_.size ≤ 512) (hg : g < w.heap.size) (hr : Rd w (some ⟨g, o, none⟩) l) :
    Calls Tryz.prog 34 #[.agg (boV b (.slice (some ⟨g, o, none⟩) l.length c)), .int .i64 (pN b), .int .i64 (qN b)] w fun e w' => SvSp g (SvWr b l) w e w' := by
  have HNG : Hid (g ≠ w.heap.size + 1) := Lib.hid (by omega)
  have HNA : Hid (g ≠ w.heap.size) := Lib.hid (by omega)
  clear hg
  have hq := qN_b b
  have N0 := Lib.hid (CB0.new w (boV b (.slice (some ⟨g, o, none⟩) l.length c)))
  have hO := Lib.hid (boV_one b (some ⟨g, o, none⟩) l.length c)
  have HR := Lib.hid (hr.below N0.out.be)
  have hm := mixed
  clear hr
  go_enter Tryz.func34, Tryz.ntmps34
  go_upto_region 1 with fail
  change Code.wp _ _ _ _ ((w.alloc (.cells (boV b (.slice (some ⟨g, o, none⟩) l.length c)) 36)).alloc (.cells (boV bo0 (.slice none 0 0)) 36))
  generalize hW : (w.alloc (.cells (boV b (.slice (some ⟨g, o, none⟩) l.length c)) 36)).alloc (.cells (boV bo0 (.slice none 0 0)) 36) = W at *
  clear hW
  have CS := Lib.hid (fun W hR => spanL (some ⟨g, o, none⟩) c l (pN b) (qN b) 1 W hm0 hR)
  have a18 := (cell_of_row _ _ 18 _ _ _ N0.out.a).trans (show (boV b (.slice (some ⟨g, o, none⟩) l.length c))[18]? = some (.slice (some ⟨g, o, none⟩) l.length c) from rfl)
  go_wp2_with fail
  refine (CS.out _ HR.out).mono ?_
  rintro e w1 ⟨⟨r, rfl, HX⟩, b1⟩
  have M1 := Lib.hid (N0.out.call b1); have HR1 := Lib.hid (HR.out.below b1)
  have hx := HX.out
  clear b1 N0 HR CS a18 HX
  cases r with
  | false =>
    have HNO : Hid (¬ SpYes l (pN b) (qN b) 1) := Lib.hid (fun h => by have := hx.2 h; simp at this)
    clear hx
    go_wp2_with (first | (refine wpList_load_row rfl 36 (.tmp 3) rfl w.heap.size rfl 36 (boV b (.slice (some ⟨g, o, none⟩) l.length c)) (0, 0) _ M1.out.a Tryz.underlying36 rfl (by rw [boV_size]; exact info30s) ?_) | (refine wpList_store_row rfl 36 (.tmp 6) (.tmp 14) rfl (w.heap.size + 1) (boV b (.slice (some ⟨g, o, none⟩) l.length c)) rfl rfl 36 _ M1.out.r (by rw [boV_size]; exact info30s) rfl hO.out ?_))
    refine bodyPost_ret (v := .tuple #[.agg (boV b (.slice (some ⟨g, o, none⟩) l.length c)), .int .i64 (-14)]) (by exact results_cell_rowC Tryz.results34 _ _ (w.heap.size + 1) 36 (boV b (.slice (some ⟨g, o, none⟩) l.length c)) (0, 0) _ rfl (setRow_heap _ _ _ _ _ _ M1.out.r) Tryz.underlying36 rfl (by rw [boV_size]; exact info30s)) (by rfl) ?_
    exact ⟨b, l, -14, g, o, c, Lib.hid (.inl ⟨HNO.out, rfl, rfl, rfl⟩), rfl, Lib.hid (rd_row HR1.out M1.out.r (fun b' o' e => by cases e; exact HNG.out)), Go.below_setRow M1.out.be (by omega) _, .inl rfl⟩
  | true =>
  have HY : Hid (SpYes l (pN b) (qN b) 1) := Lib.hid (hx.1 (by trivial))
  have z23 := (cell_of_row _ _ 23 _ _ _ M1.out.a).trans (show (boV b (.slice (some ⟨g, o, none⟩) l.length c))[23]? = some (.string b.out_) from rfl)
  have eW : IntKind.i64.wrap (512 - (b.out_.size : Int)) = 512 - (b.out_.size : Int) := IntWalk.i64_in _ (by omega)
  clear hx
  by_cases hlt : 512 - (b.out_.size : Int) < qN b
  · have HQL := Lib.hid hlt
    go_wp2_with (first | (refine wpList_load_row rfl 36 (.tmp 3) rfl w.heap.size rfl 36 (boV b (.slice (some ⟨g, o, none⟩) l.length c)) (0, 0) _ M1.out.a Tryz.underlying36 rfl (by rw [boV_size]; exact info30s) ?_) | (refine wpList_store_row rfl 36 (.tmp 6) (.tmp 21) rfl (w.heap.size + 1) (boV b (.slice (some ⟨g, o, none⟩) l.length c)) rfl rfl 36 _ M1.out.r (by rw [boV_size]; exact info30s) rfl hO.out ?_))
    refine bodyPost_ret (v := .tuple #[.agg (boV b (.slice (some ⟨g, o, none⟩) l.length c)), .int .i64 (-28)]) (by exact results_cell_rowC Tryz.results34 _ _ (w.heap.size + 1) 36 (boV b (.slice (some ⟨g, o, none⟩) l.length c)) (0, 0) _ rfl (setRow_heap _ _ _ _ _ _ M1.out.r) Tryz.underlying36 rfl (by rw [boV_size]; exact info30s)) (by rfl) ?_
    exact ⟨b, l, -28, g, o, c, Lib.hid (.inr (.inl ⟨HY.out, HQL.out, rfl, rfl, rfl⟩)), rfl, Lib.hid (rd_row HR1.out M1.out.r (fun b' o' e => by cases e; exact HNG.out)), Go.below_setRow M1.out.be (by omega) _, .inl rfl⟩
  obtain ⟨Q, eQ⟩ : ∃ Q : Nat, qN b = (Q : Int) := ⟨(qN b).toNat, by omega⟩
  have HQL := Lib.hid hlt
  have HEQ := Lib.hid eQ
  clear eQ
  go_upto_region 5 with fail
  clear z23 eW
  have eQ := HEQ.out
  have eP : IntKind.i64.wrap (16384 + pN b) = 16384 + pN b := IntWalk.i64_in _ (by have := pN_b b; omega)
  refine wp_region_krs 10 [fun _ v => v = .pointer (some ⟨w.heap.size, 23, none⟩), fun _ v => v = .string b.out_, fun _ v => v = .pointer (some ⟨w.heap.size, 18, none⟩), fun _ v => v = .agg #[.slice (some ⟨g, o, none⟩) l.length c], fun _ v => v = .int .i64 (pN b), fun _ v => v = .int .i64 (16384 + pN b), fun _ v => v = .int .i64 (qN b), GetStr2 l (pN b) (qN b), CatStr b l, fun _ v => v = .pointer (some ⟨w.heap.size, 23, none⟩)] hm (by rfl) (by kernel_rfl) (by kernel_rfl) (by kernel_rfl) (by kernel_rfl) (by kernel_rfl) ?_ ?_ ?_
  · intro j V hV w1 w2 v he h
    have hm := List.mem_of_getElem? hV
    simp only [List.mem_cons, List.not_mem_nil, or_false] at hm
    rcases hm with rfl | rfl | rfl | rfl | rfl | rfl | rfl | rfl | rfl | rfl
    all_goals first | exact h | exact h | exact h
  · intro i hi o V ho hV a wx he hs hd
    have hi' : i = 0 ∨ i = 1 ∨ i = 2 ∨ i = 3 ∨ i = 4 ∨ i = 5 ∨ i = 6 ∨ i = 7 ∨ i = 8 ∨ i = 9 := by simp at hi; omega
    clear hi
    rcases hi' with rfl | rfl | rfl | rfl | rfl | rfl | rfl | rfl | rfl | rfl
    all_goals obtain rfl := Option.some.inj ho
    all_goals obtain rfl := Option.some.inj hV
    · have e3 := slotX (v := .pointer (some ⟨w.heap.size, 0, none⟩)) hs (k := 3) (noDstX (by kernel_rfl)) rfl
      go_simp
      exact ⟨Below.refl _ _, rfl⟩
    · have e22 := getX (show a.tmps.getD 22 undef = .pointer (some ⟨w.heap.size, 23, none⟩) from hd ⟨0, .data⟩ (by simp) rfl _ _ _ rfl rfl rfl)
      have hc := (cell_of_row _ _ 23 _ _ _ (M1.out.call he).a).trans (show (boV b (.slice (some ⟨g, o, none⟩) l.length c))[23]? = some (.string b.out_) from rfl)
      go_simp
      exact ⟨Below.refl _ _, rfl⟩
    · have e3 := slotX (v := .pointer (some ⟨w.heap.size, 0, none⟩)) hs (k := 3) (noDstX (by kernel_rfl)) rfl
      go_simp
      exact ⟨Below.refl _ _, rfl⟩
    · have e24 := getX (show a.tmps.getD 24 undef = .pointer (some ⟨w.heap.size, 18, none⟩) from hd ⟨2, .data⟩ (by simp) rfl _ _ _ rfl rfl rfl)
      have hc := (cell_of_row _ _ 18 _ _ _ (M1.out.call he).a).trans (show (boV b (.slice (some ⟨g, o, none⟩) l.length c))[18]? = some (.slice (some ⟨g, o, none⟩) l.length c) from rfl)
      go_simp
      exact ⟨Below.refl _ _, rfl⟩
    · have e1 := slotX (v := .int .i64 (pN b)) hs (k := 1) (noDstX (by kernel_rfl)) rfl
      go_simp
      exact ⟨Below.refl _ _, rfl⟩
    · have e26 := getX (show a.tmps.getD 26 undef = .int .i64 (pN b) from hd ⟨4, .data⟩ (by simp) rfl _ _ _ rfl rfl rfl)
      go_simp
      exact ⟨Below.refl _ _, rfl⟩
    · have e2 := slotX (v := .int .i64 (qN b)) hs (k := 2) (noDstX (by kernel_rfl)) rfl
      go_simp
      exact ⟨Below.refl _ _, rfl⟩
    · have e25 := getX (show a.tmps.getD 25 undef = .agg #[.slice (some ⟨g, o, none⟩) l.length c] from hd ⟨3, .data⟩ (by simp) rfl _ _ _ rfl rfl rfl)
      have e27 := getX (show a.tmps.getD 27 undef = .int .i64 (16384 + pN b) from hd ⟨5, .data⟩ (by simp) rfl _ _ _ rfl rfl rfl)
      have e28 := getX (show a.tmps.getD 28 undef = .int .i64 (qN b) from hd ⟨6, .data⟩ (by simp) rfl _ _ _ rfl rfl rfl)
      refine callKX (vals := #[.agg #[.slice (some ⟨g, o, none⟩) l.length c], .int .i64 (16384 + pN b), .int .i64 (qN b)]) rfl (by simp only [List.map_toArray, List.map_cons, List.map_nil, Act.eval, Array.getD_eq_getD_getElem?, e25, e27, e28]; try rfl) (by go_simp) ?_
      rw [eQ]
      refine (getBS (some ⟨g, o, none⟩) c l (16384 + pN b) Q wx hm0 (HR1.out.below he) (by omega) (fun i hi => HY.out.bytes hm0 i (by omega))).mono ?_
      rintro e w' ⟨T, rfl, hT, b3⟩
      exact ⟨_, rfl, b3, T, rfl, ⟨hT.out.2, .inl ⟨rfl, hT.out.1⟩⟩⟩
    · have e23 := getX (show a.tmps.getD 23 undef = .string b.out_ from hd ⟨1, .data⟩ (by simp) rfl _ _ _ rfl rfl rfl)
      have r29 : (GetStr2 l (pN b) (qN b)) wx (a.tmps.getD 29 undef) := hd ⟨7, .data⟩ (by simp) rfl _ _ _ rfl rfl rfl
      obtain ⟨T, e29, hT⟩ := r29
      have hX : T.length = Q := by
        rcases hT.2 with ⟨_, h8⟩ | ⟨h8, h9⟩
        · omega
        · exact absurd h9 (fun h9 => by
            obtain ⟨v, hv⟩ := HY.out.bytes hm0 T.length (by omega)
            exact byte_code hm0 hv h9)
      have e29 := getX e29
      have hcat2 : b.out_.size + T.length ≤ 9223372036854775807 := by omega
      have hcat3 : ¬ (9223372036854775807 < b.out_.size + T.length) := by omega
      have hcat4 : (b.out_.size : Int) + (T.length : Int) ≤ 9223372036854775807 := by omega
      have hcat5 : ¬ ((9223372036854775807 : Int) < (b.out_.size : Int) + (T.length : Int)) := by omega
      clear hX
      go_simp
      exact ⟨Below.refl _ _, T, rfl, hT⟩
    · have e3 := slotX (v := .pointer (some ⟨w.heap.size, 0, none⟩)) hs (k := 3) (noDstX (by kernel_rfl)) rfl
      go_simp
      exact ⟨Below.refl _ _, rfl⟩
  intro a w3 he hs hh
  obtain ⟨T, e30, hT⟩ : CatStr b l w3 (a.tmps.getD 30 undef) := hh 8 (by simp) _ _ _ rfl rfl rfl
  have e31 : a.tmps.getD 31 undef = .pointer (some ⟨w.heap.size, 23, none⟩) := hh 9 (by simp) _ _ _ rfl rfl rfl
  have ea := same_litL hs [22, 23, 24, 25, 26, 27, 28, 29, 30, 31] (by kernel_rfl) _ rfl
  simp only [List.foldl_cons, List.foldl_nil, List.set_cons_succ, List.set_cons_zero] at ea
  rw [e30, e31] at ea
  generalize a.tmps.getD 22 undef = y22 at ea
  generalize a.tmps.getD 23 undef = y23 at ea
  generalize a.tmps.getD 24 undef = y24 at ea
  generalize a.tmps.getD 25 undef = y25 at ea
  generalize a.tmps.getD 26 undef = y26 at ea
  generalize a.tmps.getD 27 undef = y27 at ea
  generalize a.tmps.getD 28 undef = y28 at ea
  generalize a.tmps.getD 29 undef = y29 at ea
  clear hh hs
  subst ea
  obtain ⟨X2, eX⟩ : ∃ X2 : ByteArray, X2 = b.out_ ++ ⟨T.toArray⟩ := ⟨_, rfl⟩
  rw [← eX] at e30 ⊢
  have EX := Lib.hid eX
  have HT := Lib.hid hT
  have M3 := M1.out.call he
  have z23 := (cell_of_row _ _ 23 _ _ _ M3.a).trans (show (boV b (.slice (some ⟨g, o, none⟩) l.length c))[23]? = some (.string b.out_) from rfl)
  have f23 : w3.frozen? ⟨w.heap.size, 23, none⟩ = false := by simp [World.frozen?, M3.a]
  have M4 : Hid (CB0 w (w3.setCell ⟨w.heap.size, 23, none⟩ (.string X2)) (boV { b with out_ := X2 } (.slice (some ⟨g, o, none⟩) l.length c))) := Lib.hid (M3.set 23 _ (by rfl))
  have R4 : Hid (Rd (w3.setCell ⟨w.heap.size, 23, none⟩ (.string X2)) (some ⟨g, o, none⟩) l) := Lib.hid (rd_cell (HR1.out.below he) (fun b' o' e => by cases e; exact HNA.out) 23 _)
  clear eX hT M3 he e30 e31
  simp only [List.drop_succ_cons, List.drop_zero, List.drop_nil, wpTail]
  obtain ⟨b2, hb2⟩ : ∃ b2 : Bo, b2 = { b with out_ := X2 } := ⟨_, rfl⟩
  have HB2 := Lib.hid hb2
  rw [← hb2] at M4
  have hO4 := Lib.hid (boV_one b2 (some ⟨g, o, none⟩) l.length c)
  clear hb2
  go_upto_region 6 with fail
  generalize w3.setCell ⟨w.heap.size, 23, none⟩ (.string X2) = X at *
  clear z23 f23
  go_wp2_with (first | (refine wpList_load_row rfl 36 (.tmp 3) rfl w.heap.size rfl 36 (boV b2 (.slice (some ⟨g, o, none⟩) l.length c)) (0, 0) _ M4.out.a Tryz.underlying36 rfl (by rw [boV_size]; exact info30s) ?_) | (refine wpList_store_row rfl 36 (.tmp 6) (.tmp 32) rfl (w.heap.size + 1) (boV b2 (.slice (some ⟨g, o, none⟩) l.length c)) rfl rfl 36 _ M4.out.r (by rw [boV_size]; exact info30s) rfl hO4.out ?_))
  refine bodyPost_ret (v := .tuple #[.agg (boV b2 (.slice (some ⟨g, o, none⟩) l.length c)), .int .i64 (Q : Int)]) (by exact results_cell_rowC Tryz.results34 _ _ (w.heap.size + 1) 36 (boV b2 (.slice (some ⟨g, o, none⟩) l.length c)) (0, 0) _ rfl (setRow_heap _ _ _ _ _ _ M4.out.r) Tryz.underlying36 rfl (by rw [boV_size]; exact info30s)) (by rfl) ?_
  exact ⟨b2, l, (Q : Int), g, o, c, Lib.hid (.inr (.inr ⟨HY.out, by have := HQL.out; omega, ⟨T, HT.out, by rw [HB2.out, EX.out]⟩, rfl, HEQ.out.symm⟩)), rfl, Lib.hid (rd_row R4.out M4.out.r (fun b' o' e => by cases e; exact HNG.out)), Go.below_setRow M4.out.be (by omega) _, .inl rfl⟩
end Go.Proofs.YtbkgmpkednkbcaaGreatDoor
namespace Go.Proofs.YtbkgmpkednkbcaaGreatDoor
open Go.RowKit Go.Sort
set_option linter.unusedVariables false
set_option linter.unusedSimpArgs false
/-- pages behind bytes that are put -/
def PutG2 (B : Nat) (l : List Pg) (a : Int) (t : ByteArray) (w : World) (v : Value) : Prop := ∃ g' l' c', v = .agg #[.slice (some ⟨g', 0, none⟩) (List.length l') c'] ∧ LayR 0 l a t l' 0 ∧ Owns w B (some ⟨g', 0, none⟩) c' l'
theorem PutG2.mono {B : Nat} {l : List Pg} {a : Int} {t : ByteArray} {w w' : World} {v : Value} (he : Ext w w') (h : PutG2 B l a t w v) : PutG2 B l a t w' v := by
  obtain ⟨g', l', c', e, h1, h2⟩ := h
  exact ⟨g', l', c', e, h1, own_below h2 he⟩
set_option maxHeartbeats 8000000 in
set_option maxRecDepth 100000 in
theorem rdSp (b : Bo) (g o c : Nat) (l : List Pg) (w : World) (hm0 : MemOk l) (ha : 0 ≤ b.at_ ∧ b.at_ ≤ b.inp.size) (hi : b.inp.size ≤ 1024) (hg : g < w.heap.size) (hr : Rd w (some ⟨g, o, none⟩) l) :
    Calls Tryz.prog 33 #[.agg (boV b (.slice (some ⟨g, o, none⟩) l.length c)), .int .i64 (pN b), .int .i64 (qN b)] w fun e w' => SvSp g (SvRd b l) w e w' := by
  have HNG : Hid (g ≠ w.heap.size + 1) := Lib.hid (by omega)
  have HNA : Hid (g ≠ w.heap.size) := Lib.hid (by omega)
  clear hg
  obtain ⟨A, eA⟩ : ∃ A : Nat, b.at_ = (A : Int) := ⟨b.at_.toNat, by omega⟩
  have hq := qN_b b
  obtain ⟨K, eK⟩ : ∃ K : Nat, rdK b = (K : Int) := ⟨(rdK b).toNat, by unfold rdK; omega⟩
  have hK : A + K ≤ b.inp.size := by have : rdK b ≤ (b.inp.size : Int) - b.at_ := by unfold rdK; omega
                                     omega
  have hKq : (K : Int) ≤ qN b := by have : rdK b ≤ qN b := by unfold rdK; omega
                                    omega
  have eT : rdT b = b.inp.extract A (A + K) := by unfold rdT; rw [eA, eK]; congr 1
  have hts : (rdT b).size = K := by rw [eT, ByteArray.size_extract]; omega
  have eM : min (qN b) ((b.inp.size : Int) - (A : Int)) = (K : Int) := by rw [← eA]; exact eK
  have eS : IntKind.i64.wrap ((b.inp.size : Int) - (A : Int)) = (b.inp.size : Int) - A := IntWalk.i64_in _ (by omega)
  have EA := Lib.hid eA; have ET := Lib.hid eT; have EKK := Lib.hid eK; have HTS := Lib.hid hts; have HKQ := Lib.hid hKq; have HKS := Lib.hid hK; have HI := Lib.hid hi
  clear eA eT eK hts hKq hK ha hi hq
  have N0 := Lib.hid (CB0.new w (boV b (.slice (some ⟨g, o, none⟩) l.length c)))
  have hO := Lib.hid (boV_one b (some ⟨g, o, none⟩) l.length c)
  have HR := Lib.hid (hr.below N0.out.be)
  have hm := mixed
  clear hr
  go_enter Tryz.func33, Tryz.ntmps33
  go_upto_region 1 with fail
  change Code.wp _ _ _ _ ((w.alloc (.cells (boV b (.slice (some ⟨g, o, none⟩) l.length c)) 36)).alloc (.cells (boV bo0 (.slice none 0 0)) 36))
  generalize hW : (w.alloc (.cells (boV b (.slice (some ⟨g, o, none⟩) l.length c)) 36)).alloc (.cells (boV bo0 (.slice none 0 0)) 36) = W at *
  clear hW
  have CS := Lib.hid (fun W hR => spanL (some ⟨g, o, none⟩) c l (pN b) (qN b) 2 W hm0 hR)
  have a18 := (cell_of_row _ _ 18 _ _ _ N0.out.a).trans (show (boV b (.slice (some ⟨g, o, none⟩) l.length c))[18]? = some (.slice (some ⟨g, o, none⟩) l.length c) from rfl)
  go_wp2_with fail
  refine (CS.out _ HR.out).mono ?_
  rintro e w1 ⟨⟨r, rfl, HX⟩, b1⟩
  have M1 := Lib.hid (N0.out.call b1); have HR1 := Lib.hid (HR.out.below b1)
  have hx := HX.out
  clear b1 N0 HR CS a18 HX
  cases r with
  | false =>
    have HNO : Hid (¬ SpYes l (pN b) (qN b) 2) := Lib.hid (fun h => by have := hx.2 h; simp at this)
    clear hx
    go_wp2_with (first | (refine wpList_load_row rfl 36 (.tmp 3) rfl w.heap.size rfl 36 (boV b (.slice (some ⟨g, o, none⟩) l.length c)) (0, 0) _ M1.out.a Tryz.underlying36 rfl (by rw [boV_size]; exact info30s) ?_) | (refine wpList_store_row rfl 36 (.tmp 6) (.tmp 15) rfl (w.heap.size + 1) (boV b (.slice (some ⟨g, o, none⟩) l.length c)) rfl rfl 36 _ M1.out.r (by rw [boV_size]; exact info30s) rfl hO.out ?_))
    refine bodyPost_ret (v := .tuple #[.agg (boV b (.slice (some ⟨g, o, none⟩) l.length c)), .int .i64 (-14)]) (by exact results_cell_rowC Tryz.results33 _ _ (w.heap.size + 1) 36 (boV b (.slice (some ⟨g, o, none⟩) l.length c)) (0, 0) _ rfl (setRow_heap _ _ _ _ _ _ M1.out.r) Tryz.underlying36 rfl (by rw [boV_size]; exact info30s)) (by rfl) ?_
    exact ⟨b, l, -14, g, o, c, Lib.hid (.inl ⟨HNO.out, rfl, rfl, rfl⟩), rfl, Lib.hid (rd_row HR1.out M1.out.r (fun b' o' e => by cases e; exact HNG.out)), Go.below_setRow M1.out.be (by omega) _, .inl rfl⟩
  | true =>
  have HY : Hid (SpYes l (pN b) (qN b) 2) := Lib.hid (hx.1 (by trivial))
  have z21 := (cell_of_row _ _ 21 _ _ _ M1.out.a).trans (show (boV b (.slice (some ⟨g, o, none⟩) l.length c))[21]? = some (.string b.inp) from rfl)
  have z22 : w1.cell? ⟨w.heap.size, 22, none⟩ = some (.int .i64 (A : Int)) := ((cell_of_row _ _ 22 _ _ _ M1.out.a).trans (show (boV b (.slice (some ⟨g, o, none⟩) l.length c))[22]? = some (.int .i64 b.at_) from rfl)).trans (by rw [EA.out])
  clear hx
  go_upto_region 4 with fail
  obtain ⟨W0, hW0⟩ : ∃ W0, W0 = w1 := ⟨_, rfl⟩
  rw [← hW0] at M1 HR1 ⊢
  clear hW0 z21 z22 eM eS
  have hts := HTS.out; have hkq := HKQ.out; have hks := HKS.out; have hI := HI.out
  have eP : IntKind.i64.wrap (16384 + pN b) = 16384 + pN b := IntWalk.i64_in _ (by have := pN_b b; omega)
  have eAK : IntKind.i64.wrap ((A : Int) + (K : Int)) = (A : Int) + (K : Int) := IntWalk.i64_in _ (by omega)
  refine wp_region_krs 15 [fun _ v => v = .pointer (some ⟨w.heap.size, 18, none⟩), fun _ v => v = .agg #[.slice (some ⟨g, o, none⟩) l.length c], fun _ v => v = .int .i64 (pN b), fun _ v => v = .int .i64 (16384 + pN b), fun _ v => v = .pointer (some ⟨w.heap.size, 21, none⟩), fun _ v => v = .string b.inp, fun _ v => v = .pointer (some ⟨w.heap.size, 22, none⟩), fun _ v => v = .int .i64 (A : Int), fun _ v => v = .pointer (some ⟨w.heap.size, 22, none⟩), fun _ v => v = .int .i64 (A : Int), fun _ v => v = .int .i64 (K : Int), fun _ v => v = .int .i64 ((A : Int) + (K : Int)), fun _ v => v = .string (rdT b), PutG2 W0.heap.size l (16384 + pN b) (rdT b), fun _ v => v = .pointer (some ⟨w.heap.size, 18, none⟩)] hm (by rfl) (by kernel_rfl) (by kernel_rfl) (by kernel_rfl) (by kernel_rfl) (by kernel_rfl) ?_ ?_ ?_
  · intro j V hV w1 w2 v he h
    have hm := List.mem_of_getElem? hV
    simp only [List.mem_cons, List.not_mem_nil, or_false] at hm
    rcases hm with rfl | rfl | rfl | rfl | rfl | rfl | rfl | rfl | rfl | rfl | rfl | rfl | rfl | rfl | rfl
    all_goals first | exact h | exact PutG2.mono he h
  · intro i hi o V ho hV a wx he hs hd
    have hi' : i = 0 ∨ i = 1 ∨ i = 2 ∨ i = 3 ∨ i = 4 ∨ i = 5 ∨ i = 6 ∨ i = 7 ∨ i = 8 ∨ i = 9 ∨ i = 10 ∨ i = 11 ∨ i = 12 ∨ i = 13 ∨ i = 14 := by simp at hi; omega
    clear hi
    rcases hi' with rfl | rfl | rfl | rfl | rfl | rfl | rfl | rfl | rfl | rfl | rfl | rfl | rfl | rfl | rfl
    all_goals obtain rfl := Option.some.inj ho
    all_goals obtain rfl := Option.some.inj hV
    · have e3 := slotX (v := .pointer (some ⟨w.heap.size, 0, none⟩)) hs (k := 3) (noDstX (by kernel_rfl)) rfl
      go_simp
      exact ⟨Below.refl _ _, rfl⟩
    · have e24 := getX (show a.tmps.getD 24 undef = .pointer (some ⟨w.heap.size, 18, none⟩) from hd ⟨0, .data⟩ (by simp) rfl _ _ _ rfl rfl rfl)
      have hc := (cell_of_row _ _ 18 _ _ _ (M1.out.call he).a).trans (show (boV b (.slice (some ⟨g, o, none⟩) l.length c))[18]? = some (.slice (some ⟨g, o, none⟩) l.length c) from rfl)
      go_simp
      exact ⟨Below.refl _ _, rfl⟩
    · have e1 := slotX (v := .int .i64 (pN b)) hs (k := 1) (noDstX (by kernel_rfl)) rfl
      go_simp
      exact ⟨Below.refl _ _, rfl⟩
    · have e26 := getX (show a.tmps.getD 26 undef = .int .i64 (pN b) from hd ⟨2, .data⟩ (by simp) rfl _ _ _ rfl rfl rfl)
      go_simp
      exact ⟨Below.refl _ _, rfl⟩
    · have e3 := slotX (v := .pointer (some ⟨w.heap.size, 0, none⟩)) hs (k := 3) (noDstX (by kernel_rfl)) rfl
      go_simp
      exact ⟨Below.refl _ _, rfl⟩
    · have e28 := getX (show a.tmps.getD 28 undef = .pointer (some ⟨w.heap.size, 21, none⟩) from hd ⟨4, .data⟩ (by simp) rfl _ _ _ rfl rfl rfl)
      have hc := (cell_of_row _ _ 21 _ _ _ (M1.out.call he).a).trans (show (boV b (.slice (some ⟨g, o, none⟩) l.length c))[21]? = some (.string b.inp) from rfl)
      go_simp
      exact ⟨Below.refl _ _, rfl⟩
    · have e3 := slotX (v := .pointer (some ⟨w.heap.size, 0, none⟩)) hs (k := 3) (noDstX (by kernel_rfl)) rfl
      go_simp
      exact ⟨Below.refl _ _, rfl⟩
    · have e30 := getX (show a.tmps.getD 30 undef = .pointer (some ⟨w.heap.size, 22, none⟩) from hd ⟨6, .data⟩ (by simp) rfl _ _ _ rfl rfl rfl)
      have hc := (show wx.cell? ⟨w.heap.size, 22, none⟩ = some (.int .i64 (A : Int)) from ((cell_of_row _ _ 22 _ _ _ (M1.out.call he).a).trans (show (boV b (.slice (some ⟨g, o, none⟩) l.length c))[22]? = some (.int .i64 b.at_) from rfl)).trans (by rw [EA.out]))
      go_simp
      exact ⟨Below.refl _ _, rfl⟩
    · have e3 := slotX (v := .pointer (some ⟨w.heap.size, 0, none⟩)) hs (k := 3) (noDstX (by kernel_rfl)) rfl
      go_simp
      exact ⟨Below.refl _ _, rfl⟩
    · have e32 := getX (show a.tmps.getD 32 undef = .pointer (some ⟨w.heap.size, 22, none⟩) from hd ⟨8, .data⟩ (by simp) rfl _ _ _ rfl rfl rfl)
      have hc := (show wx.cell? ⟨w.heap.size, 22, none⟩ = some (.int .i64 (A : Int)) from ((cell_of_row _ _ 22 _ _ _ (M1.out.call he).a).trans (show (boV b (.slice (some ⟨g, o, none⟩) l.length c))[22]? = some (.int .i64 b.at_) from rfl)).trans (by rw [EA.out]))
      go_simp
      exact ⟨Below.refl _ _, rfl⟩
    · have e8 := slotX (v := .int .i64 (K : Int)) hs (k := 8) (noDstX (by kernel_rfl)) rfl
      go_simp
      exact ⟨Below.refl _ _, rfl⟩
    · have e33 := getX (show a.tmps.getD 33 undef = .int .i64 (A : Int) from hd ⟨9, .data⟩ (by simp) rfl _ _ _ rfl rfl rfl)
      have e34 := getX (show a.tmps.getD 34 undef = .int .i64 (K : Int) from hd ⟨10, .data⟩ (by simp) rfl _ _ _ rfl rfl rfl)
      go_simp
      exact ⟨Below.refl _ _, rfl⟩
    · have e29 := getX (show a.tmps.getD 29 undef = .string b.inp from hd ⟨5, .data⟩ (by simp) rfl _ _ _ rfl rfl rfl)
      have e31 := getX (show a.tmps.getD 31 undef = .int .i64 (A : Int) from hd ⟨7, .data⟩ (by simp) rfl _ _ _ rfl rfl rfl)
      have e35 := getX (show a.tmps.getD 35 undef = .int .i64 ((A : Int) + (K : Int)) from hd ⟨11, .data⟩ (by simp) rfl _ _ _ rfl rfl rfl)
      have d1 : (0 : Int) ≤ (A : Int) + (K : Int) ∧ (A : Int) + (K : Int) ≤ (b.inp.size : Int) := by omega
      have d2 : (A : Int) ≤ (A : Int) + (K : Int) := by omega
      have d3 : ((A : Int) + (K : Int)).toNat = A + K := by omega
      go_simp
      exact ⟨Below.refl _ _, by rw [ET.out]⟩
    · have e25 := getX (show a.tmps.getD 25 undef = .agg #[.slice (some ⟨g, o, none⟩) l.length c] from hd ⟨1, .data⟩ (by simp) rfl _ _ _ rfl rfl rfl)
      have e27 := getX (show a.tmps.getD 27 undef = .int .i64 (16384 + pN b) from hd ⟨3, .data⟩ (by simp) rfl _ _ _ rfl rfl rfl)
      have e36 := getX (show a.tmps.getD 36 undef = .string (rdT b) from hd ⟨12, .data⟩ (by simp) rfl _ _ _ rfl rfl rfl)
      refine callKX (vals := #[.agg #[.slice (some ⟨g, o, none⟩) l.length c], .int .i64 (16384 + pN b), .string (rdT b)]) rfl (by simp only [List.map_toArray, List.map_cons, List.map_nil, Act.eval, Array.getD_eq_getD_getElem?, e25, e27, e36]; try rfl) (by go_simp) ?_
      refine (l02PutG g o c l (16384 + pN b) (rdT b) wx (by have := hm0.1; omega) hm0 (HR1.out.below he) (fun i hi => HY.out.bytes hm0 i (by omega))).mono ?_
      rintro e w' ⟨g', c', l', rfl, hl, ho, b3⟩
      exact ⟨_, rfl, b3, g', l', c', rfl, hl.out, Joins.ownsRow_le ho he.size⟩
    · have e3 := slotX (v := .pointer (some ⟨w.heap.size, 0, none⟩)) hs (k := 3) (noDstX (by kernel_rfl)) rfl
      go_simp
      exact ⟨Below.refl _ _, rfl⟩
  intro a w3 he hs hh
  obtain ⟨g', l', c', e37, hl, ho⟩ : PutG2 W0.heap.size l (16384 + pN b) (rdT b) w3 (a.tmps.getD 37 undef) := hh 13 (by simp) _ _ _ rfl rfl rfl
  have e38 : a.tmps.getD 38 undef = .pointer (some ⟨w.heap.size, 18, none⟩) := hh 14 (by simp) _ _ _ rfl rfl rfl
  have ea := same_litL hs [24, 25, 26, 27, 28, 29, 30, 31, 32, 33, 34, 35, 36, 37, 38] (by kernel_rfl) _ rfl
  simp only [List.foldl_cons, List.foldl_nil, List.set_cons_succ, List.set_cons_zero] at ea
  rw [e37, e38] at ea
  generalize a.tmps.getD 24 undef = y24 at ea
  generalize a.tmps.getD 25 undef = y25 at ea
  generalize a.tmps.getD 26 undef = y26 at ea
  generalize a.tmps.getD 27 undef = y27 at ea
  generalize a.tmps.getD 28 undef = y28 at ea
  generalize a.tmps.getD 29 undef = y29 at ea
  generalize a.tmps.getD 30 undef = y30 at ea
  generalize a.tmps.getD 31 undef = y31 at ea
  generalize a.tmps.getD 32 undef = y32 at ea
  generalize a.tmps.getD 33 undef = y33 at ea
  generalize a.tmps.getD 34 undef = y34 at ea
  generalize a.tmps.getD 35 undef = y35 at ea
  generalize a.tmps.getD 36 undef = y36 at ea
  clear hh hs
  subst ea
  have HL := Lib.hid hl
  have M3 := M1.out.call he
  have lr1 := lt_of_blk' M1.out.r
  have hgl := (ho.lt g' rfl).1
  have z18 := (cell_of_row _ _ 18 _ _ _ M3.a).trans (show (boV b (.slice (some ⟨g, o, none⟩) l.length c))[18]? = some (.slice (some ⟨g, o, none⟩) l.length c) from rfl)
  have f18 : w3.frozen? ⟨w.heap.size, 18, none⟩ = false := by simp [World.frozen?, M3.a]
  have M4 := M3.set (b' := b) (m' := .slice (some ⟨g', 0, none⟩) l'.length c') 18 (.slice (some ⟨g', 0, none⟩) l'.length c') (by rfl)
  have R4 : Rd (w3.setCell ⟨w.heap.size, 18, none⟩ (.slice (some ⟨g', 0, none⟩) l'.length c')) (some ⟨g', 0, none⟩) l' := Rd.of_own (owns_other2 ho (fun j hj => by have := (ho.lt j hj).1; omega) 18 _)
  have z22 := ((cell_of_row _ _ 22 _ _ _ M4.a).trans (show (boV b (.slice (some ⟨g', 0, none⟩) l'.length c'))[22]? = some (.int .i64 b.at_) from rfl)).trans (show _ = some (.int .i64 (A : Int)) by rw [EA.out])
  have f22 : (w3.setCell ⟨w.heap.size, 18, none⟩ (.slice (some ⟨g', 0, none⟩) l'.length c')).frozen? ⟨w.heap.size, 22, none⟩ = false := by simp [World.frozen?, M4.a]
  obtain ⟨b2, hb2⟩ : ∃ b2 : Bo, b2 = { b with at_ := b.at_ + rdK b } := ⟨_, rfl⟩
  have HB2 := Lib.hid hb2
  have M5 : Hid (CB0 w ((w3.setCell ⟨w.heap.size, 18, none⟩ (.slice (some ⟨g', 0, none⟩) l'.length c')).setCell ⟨w.heap.size, 22, none⟩ (.int .i64 ((A : Int) + (K : Int)))) (boV b2 (.slice (some ⟨g', 0, none⟩) l'.length c'))) := Lib.hid (M4.set 22 _ (by rw [hb2, ← EA.out, ← EKK.out]; rfl))
  have R5 := Lib.hid (rd_cell (g := w.heap.size) R4 (fun b' o' e => by cases e; omega) 22 (.int .i64 ((A : Int) + (K : Int))))
  have HG5 : Hid (w.heap.size + 1 < g') := Lib.hid (by omega)
  have hO5 := Lib.hid (boV_one b2 (some ⟨g', 0, none⟩) l'.length c')
  clear hl M3 M4 R4 ho he e37 e38 hb2 hgl lr1
  simp only [List.drop_succ_cons, List.drop_zero, List.drop_nil, wpTail]
  go_upto_region 6 with fail
  generalize (w3.setCell ⟨w.heap.size, 18, none⟩ (.slice (some ⟨g', 0, none⟩) l'.length c')).setCell ⟨w.heap.size, 22, none⟩ (.int .i64 ((A : Int) + (K : Int))) = X at *
  clear z18 f18 z22 f22
  go_wp2_with (first | (refine wpList_load_row rfl 36 (.tmp 3) rfl w.heap.size rfl 36 (boV b2 (.slice (some ⟨g', 0, none⟩) l'.length c')) (0, 0) _ M5.out.a Tryz.underlying36 rfl (by rw [boV_size]; exact info30s) ?_) | (refine wpList_store_row rfl 36 (.tmp 6) (.tmp 44) rfl (w.heap.size + 1) (boV b2 (.slice (some ⟨g', 0, none⟩) l'.length c')) rfl rfl 36 _ M5.out.r (by rw [boV_size]; exact info30s) rfl hO5.out ?_))
  refine bodyPost_ret (v := .tuple #[.agg (boV b2 (.slice (some ⟨g', 0, none⟩) l'.length c')), .int .i64 (K : Int)]) (by exact results_cell_rowC Tryz.results33 _ _ (w.heap.size + 1) 36 (boV b2 (.slice (some ⟨g', 0, none⟩) l'.length c')) (0, 0) _ rfl (setRow_heap _ _ _ _ _ _ M5.out.r) Tryz.underlying36 rfl (by rw [boV_size]; exact info30s)) (by rfl) ?_
  exact ⟨b2, l', (K : Int), g', 0, c', Lib.hid (.inr ⟨HY.out, HL.out, HB2.out, EKK.out.symm⟩), rfl, Lib.hid (rd_row R5.out M5.out.r (fun b' o' e => by cases e; have := HG5.out; omega)), Go.below_setRow M5.out.be (by omega) _, .inr (by have := HG5.out; omega)⟩
end Go.Proofs.YtbkgmpkednkbcaaGreatDoor
namespace Go.Proofs.YtbkgmpkednkbcaaGreatDoor
open Go.RowKit Go.Sort
set_option linter.unusedVariables false
set_option linter.unusedSimpArgs false
/-- within l12Break: the boxes, and that of the pages so far -/
structure FS (w : World) (m : Nat) (wr : World) (A : Array Value) (q oq cq : Nat) (L : List Pg) : Prop where
  cb : CB0 w wr A
  mbx : wr.heap[m]? = some (.cells #[.slice (some ⟨q, oq, none⟩) L.length cq] 34 (0, 0))
  rd : Rd wr (some ⟨q, oq, none⟩) L
  ne : q ≠ w.heap.size ∧ q ≠ w.heap.size + 1 ∧ q ≠ m
  lt : w.heap.size + 1 < m
theorem FS.next {w wr w' : World} {m : Nat} {A : Array Value} {q oq cq : Nat} {L : List Pg} (h : FS w m wr A q oq cq L) (hb : Below wr.heap.size wr w') : FS w m w' A q oq cq L :=
  ⟨h.cb.call hb, (hb.block _ (lt_of_block h.mbx)).trans h.mbx, h.rd.below hb, h.ne, h.lt⟩
theorem FS.put {w wr : World} {m : Nat} {A : Array Value} {q oq cq q' c' : Nat} {L L' : List Pg} (h : FS w m wr A q oq cq L) (hr : Rd wr (some ⟨q', 0, none⟩) L') (hn : m < q') : FS w m (wr.setCell ⟨m, 0, none⟩ (.slice (some ⟨q', 0, none⟩) L'.length c')) A q' 0 c' L' := by
  have hl := h.lt
  exact ⟨⟨(Below.heap_setCell _ _ _ _ (by simp; omega)).trans h.cb.a, (Below.heap_setCell _ _ _ _ (by simp; omega)).trans h.cb.r, h.cb.be.setCell (by simp; omega) _⟩, one_setCell h.mbx, rd_cell hr (fun b' o' e => by cases e; omega) 0 _, by omega, h.lt⟩
theorem add_there {l : List Pg} (hm : MemOk l) {a : Int} (hb : BaseOk a) {k : Nat} {x : Pg} (h : Has l a k x) : AddOut l a 3 l 13 := by
  have hx := hm.2.1 k x h.1
  refine .inr (.inr (.inl ⟨hm, ⟨hb, ⟨by omega, by omega⟩⟩, ⟨k, x, h.1, ?_⟩, rfl, rfl⟩))
  have h1 := h.2; have h2 := hx.2.2.1; have h3 := hb.2.2
  omega
theorem no_base {l : List Pg} {a : Int} (h : ∀ k x, ¬ Has l a k x) : ∀ (k : Nat) x, l[k]? = some x → x.b ≠ a := fun k x hk e => h k x ⟨hk, by omega, by omega⟩
set_option maxHeartbeats 8000000 in
set_option maxRecDepth 100000 in
theorem bkS (b : Bo) (g o c : Nat) (l : List Pg) (w : World) (hm0 : MemOk l) (hh : 512 ≤ b.hp ∧ b.hp ≤ b.bk ∧ b.bk ≤ 3584) (hg : g < w.heap.size) (hr : Rd w (some ⟨g, o, none⟩) l) :
    Calls Tryz.prog 35 #[.agg (boV b (.slice (some ⟨g, o, none⟩) l.length c)), .int .i64 (dN b)] w fun e w' => SvSp g (SvBk b l) w e w' := by
  have HNG : Hid (g < w.heap.size) := Lib.hid hg
  have HR0 := Lib.hid hr
  have hd := dN_b b
  obtain ⟨K, eK⟩ : ∃ K, K = b.bk + dN b := ⟨_, rfl⟩
  have eS : IntKind.i64.wrap (b.bk + dN b) = K := by rw [eK]; exact IntWalk.i64_in _ (by omega)
  have EK := Lib.hid eK; have HH := Lib.hid hh; have HM0 := Lib.hid hm0
  clear hg hd eK hh hm0
  have N0 := Lib.hid (CB0.new w (boV b (.slice (some ⟨g, o, none⟩) l.length c)))
  have hO := Lib.hid (boV_one b (some ⟨g, o, none⟩) l.length c)
  have HR := Lib.hid (hr.below N0.out.be)
  have hm := mixed
  clear hr
  go_enter Tryz.func35, Tryz.ntmps35
  go_upto_region 1 with fail
  change Code.wp _ _ _ _ ((w.alloc (.cells (boV b (.slice (some ⟨g, o, none⟩) l.length c)) 36)).alloc (.cells (boV bo0 (.slice none 0 0)) 36))
  generalize hW : (w.alloc (.cells (boV b (.slice (some ⟨g, o, none⟩) l.length c)) 36)).alloc (.cells (boV bo0 (.slice none 0 0)) 36) = W at *
  clear hW
  have a20 := (cell_of_row _ _ 20 _ _ _ N0.out.a).trans (show (boV b (.slice (some ⟨g, o, none⟩) l.length c))[20]? = some (.int .i64 b.bk) from rfl)
  have a19 := (cell_of_row _ _ 19 _ _ _ N0.out.a).trans (show (boV b (.slice (some ⟨g, o, none⟩) l.length c))[19]? = some (.int .i64 b.hp) from rfl)
  have a18 := (cell_of_row _ _ 18 _ _ _ N0.out.a).trans (show (boV b (.slice (some ⟨g, o, none⟩) l.length c))[18]? = some (.slice (some ⟨g, o, none⟩) l.length c) from rfl)
  have CI := Lib.hid (fun W => inS K b.hp 3584 W)
  go_wp2_with fail
  refine (CI.out _).mono ?_
  rintro e w1 ⟨rfl, rfl⟩
  by_cases hin : b.hp ≤ K ∧ K ≤ 3584
  rotate_left
  · rw [decide_eq_false hin]
    have HIN := Lib.hid hin
    clear hin
    go_wp2_with (first | (refine wpList_load_row rfl 36 (.tmp 2) rfl w.heap.size rfl 36 (boV b (.slice (some ⟨g, o, none⟩) l.length c)) (0, 0) _ N0.out.a Tryz.underlying36 rfl (by rw [boV_size]; exact info30s) ?_) | (refine wpList_store_row rfl 36 (.tmp 4) (.tmp 19) rfl (w.heap.size + 1) (boV b (.slice (some ⟨g, o, none⟩) l.length c)) rfl rfl 36 _ N0.out.r (by rw [boV_size]; exact info30s) rfl hO.out ?_))
    refine bodyPost_ret (v := .tuple #[.agg (boV b (.slice (some ⟨g, o, none⟩) l.length c)), .int .i64 (-12)]) (by exact results_cell_rowC Tryz.results35 _ _ (w.heap.size + 1) 36 (boV b (.slice (some ⟨g, o, none⟩) l.length c)) (0, 0) _ rfl (setRow_heap _ _ _ _ _ _ N0.out.r) Tryz.underlying36 rfl (by rw [boV_size]; exact info30s)) (by rfl) ?_
    exact ⟨b, l, -12, g, o, c, Lib.hid (.inl ⟨by rw [← EK.out]; exact HIN.out, rfl, rfl, rfl⟩), rfl, Lib.hid (rd_row HR.out N0.out.r (fun b' o' e => by cases e; have := HNG.out; omega)), Go.below_setRow N0.out.be (by omega) _, .inl rfl⟩
  rw [decide_eq_true hin]
  have HIN := Lib.hid hin
  have hK : 512 ≤ K ∧ K ≤ 3584 := by have := HH.out; omega
  have HK := Lib.hid hK
  have hhp := HH.out
  have hp0 : 0 ≤ b.hp := by omega
  clear hin hK
  go_upto_region 5 with fail
  obtain ⟨V, hV⟩ : ∃ V, V = W.alloc (.cells #[.slice (some ⟨g, o, none⟩) l.length c] 34) := ⟨_, rfl⟩
  rw [← hV]
  have lr0 := lt_of_blk' N0.out.r
  have F0 : Hid (FS w W.heap.size V (boV b (.slice (some ⟨g, o, none⟩) l.length c)) g o c l) := Lib.hid ⟨by rw [hV]; exact N0.out.call (below1 W _), by rw [hV]; exact heap_alloc_new W _, by rw [hV]; exact HR.out.below (below1 W _), by have := HNG.out; omega, lr0⟩
  have v19 := (cell_of_row _ _ 19 _ _ _ F0.out.cb.a).trans (show (boV b (.slice (some ⟨g, o, none⟩) l.length c))[19]? = some (.int .i64 b.hp) from rfl)
  clear hV a18 a19 a20 N0 HR
  generalize W.heap.size = m at *
  go_wp2_with fail
  go_loopw [8] (fun i wr => ∃ (t : Int) (L : List Pg) (q oq cq : Nat), i = .int .i64 t ∧ Hid (0 ≤ t ∧ t % 256 = 0 ∧ t ≤ 4096) ∧ Hid (∀ r, FillR K t L r → FillR K (b.hp / 256 * 256) l r) ∧ Hid (MemOk L) ∧ Hid (FS w m wr (boV b (.slice (some ⟨g, o, none⟩) l.length c)) q oq cq L) ∧ Hid (q = g ∨ w.heap.size ≤ q)) (fun i _ => (4096 - intOf i).toNat)
  case atStart => exact ⟨_, l, g, o, c, rfl, Lib.hid (by have := HH.out; omega), Lib.hid (fun r h => h), HM0, F0, Lib.hid (.inl rfl)⟩
  case round =>
    obtain ⟨t, L, q, oq, cq, rfl, HT, HF, HM, HS, HOG⟩ := hrel
    have kM := cell_of_one HS.out.mbx
    have fM := free_of_one HS.out.mbx
    by_cases hlt : t < K
    · have HL := Lib.hid hlt
      have eP : IntKind.i64.wrap (16384 + t) = 16384 + t := IntWalk.i64_in _ (by have := HT.out; omega)
      have eT : IntKind.i64.wrap (t + 256) = t + 256 := IntWalk.i64_in _ (by have := HT.out; omega)
      have CF := Lib.hid (findS (some ⟨q, oq, none⟩) cq L (16384 + t) wr HM.out HS.out.rd (by have := HT.out; omega) (by have := HT.out; omega))
      go_wp2_with fail
      refine (CF.out).mono ?_
      rintro e w2 ⟨r, rfl, hfd, b2⟩
      have HS2 := Lib.hid (HS.out.next b2)
      have HFD := Lib.hid hfd.out
      have hBa : BaseOk (16384 + t) := by have := HT.out; have := HL.out; have := HK.out; exact ⟨by omega, by omega, by omega⟩
      have HBA := Lib.hid hBa
      clear b2 hfd CF hBa kM fM HS
      rcases HFD.out with ⟨k, x, hx, rfl⟩ | ⟨hno, rfl⟩
      · have HX := Lib.hid hx
        clear hx
        go_wp2
        go_roundw
        case rel =>
          have hT := HT.out; have hL := HL.out; have hK := HK.out
          exact ⟨t + 256, L, q, oq, cq, rfl, Lib.hid (by omega), Lib.hid (fun r h => HF.out r (.more hL (add_there HM.out HBA.out HX.out) (by decide) h)), HM, HS2, HOG⟩
        case measure => simp [intOf]; have := HT.out; have := HL.out; have := HK.out; omega
      · have HN := Lib.hid (no_base hno)
        have kM := cell_of_one HS2.out.mbx
        have fM := free_of_one HS2.out.mbx
        have h32 := HM.out.1
        clear hno HFD
        by_cases hl : L.length = 32
        · have q32 : ((L.length : Int) == 32) = true := beq_iff_eq.2 (by omega)
          have H32 := Lib.hid hl
          clear hl h32
          go_wp2_with (first | (refine wpList_load_row rfl 36 (.tmp 2) rfl w.heap.size rfl 36 (boV b (.slice (some ⟨g, o, none⟩) l.length c)) (0, 0) _ HS2.out.cb.a Tryz.underlying36 rfl (by rw [boV_size]; exact info30s) ?_) | (refine wpList_store_row rfl 36 (.tmp 4) (.tmp 40) rfl (w.heap.size + 1) (boV b (.slice (some ⟨g, o, none⟩) l.length c)) rfl rfl 36 _ HS2.out.cb.r (by rw [boV_size]; exact info30s) rfl hO.out ?_))
          have HCB := Lib.hid HS2.out.cb
          refine bodyPost_ret (v := .tuple #[.agg (boV b (.slice (some ⟨g, o, none⟩) l.length c)), .int .i64 (-12)]) (by exact results_cell_rowC Tryz.results35 _ _ (w.heap.size + 1) 36 (boV b (.slice (some ⟨g, o, none⟩) l.length c)) (0, 0) _ rfl (setRow_heap _ _ _ _ _ _ HCB.out.r) Tryz.underlying36 rfl (by rw [boV_size]; exact info30s)) (by rfl) ?_
          exact ⟨b, l, -12, g, o, c, Lib.hid (.inr (.inl ⟨by rw [← EK.out]; exact HIN.out, by rw [← EK.out]; exact HF.out _ (.full HL.out (.inr (.inr (.inr (.inl ⟨HM.out, ⟨HBA.out, ⟨by omega, by omega⟩⟩, HN.out, H32.out, rfl, rfl⟩))))), rfl, rfl, rfl⟩)), rfl, Lib.hid (rd_row (HR0.out.below HCB.out.be) HCB.out.r (fun b' o' e => by cases e; have := HNG.out; omega)), Go.below_setRow HCB.out.be (by omega) _, .inl rfl⟩
        · have q32 : ((L.length : Int) == 32) = false := by simpa using (show ¬ ((L.length : Int) = 32) by omega)
          have CA := Lib.hid (l02AddC (some ⟨q, oq, none⟩) cq (cnt L (16384 + t)) L (16384 + t) 3 w2 h32 HS2.out.rd (cnt_spec HM.out (16384 + t)) HN.out)
          have H32 := Lib.hid hl
          clear hl h32
          go_wp2_with fail
          refine (CA.out).mono ?_
          rintro e w3 ⟨p3, c3, rfl, o3, b3⟩
          have HA : AddOut L (16384 + t) 3 (insL L (cnt L (16384 + t)) ⟨16384 + t, 3, zeros256⟩) 0 := .inr (.inr (.inr (.inr ⟨HM.out, ⟨HBA.out, ⟨by omega, by omega⟩⟩, HN.out, H32.out, ⟨cnt L (16384 + t), cnt_spec HM.out (16384 + t), rfl⟩, rfl⟩)))
          have hln := insL_len (l := L) (x := (⟨16384 + t, 3, zeros256⟩ : Pg)) (cnt_spec HM.out (16384 + t)).1
          generalize insL L (cnt L (16384 + t)) ⟨16384 + t, 3, zeros256⟩ = L3 at *
          obtain ⟨q3, cap3, e3⟩ := form_ne o3 (by intro e; injection e with _ e _; omega)
          injection e3 with e3 _ e4
          subst e3
          obtain rfl : c3 = cap3 := e4
          have hq3 := (o3.lt q3 rfl).1
          have hm2 := lt_of_block HS2.out.mbx
          have HA2 := Lib.hid HA
          have HQ3 : Hid (q3 = g ∨ w.heap.size ≤ q3) := Lib.hid (.inr (by have := HS2.out.lt; omega))
          have kM3 := cell_of_one (HS2.out.next b3).mbx
          have fM3 := free_of_one (HS2.out.next b3).mbx
          have F3 := Lib.hid ((HS2.out.next b3).put (c' := c3) (Rd.of_own o3) (by omega))
          clear HA hln o3 b3 CA hq3 hm2 kM fM
          go_wp2
          go_roundw
          case rel =>
            have hT := HT.out; have hL := HL.out; have hK := HK.out
            exact ⟨t + 256, L3, q3, 0, c3, rfl, Lib.hid (by omega), Lib.hid (fun r h => HF.out r (.more hL HA2.out (by decide) h)), Lib.hid (HA2.out.ok HM.out HBA.out ⟨by omega, by omega⟩).1, F3, HQ3⟩
          case measure => simp [intOf]; have := HT.out; have := HL.out; have := HK.out; omega
    · have HL := Lib.hid hlt
      have w20 := (cell_of_row _ _ 20 _ _ _ HS.out.cb.a).trans (show (boV b (.slice (some ⟨g, o, none⟩) l.length c))[20]? = some (.int .i64 b.bk) from rfl)
      have w18 := (cell_of_row _ _ 18 _ _ _ HS.out.cb.a).trans (show (boV b (.slice (some ⟨g, o, none⟩) l.length c))[18]? = some (.slice (some ⟨g, o, none⟩) l.length c) from rfl)
      have f18 : wr.frozen? ⟨w.heap.size, 18, none⟩ = false := by simp [World.frozen?, HS.out.cb.a]
      have M4 := HS.out.cb.set (b' := b) (m' := .slice (some ⟨q, oq, none⟩) L.length cq) 18 (.slice (some ⟨q, oq, none⟩) L.length cq) (by rfl)
      have w20' := (cell_of_row _ _ 20 _ _ _ M4.a).trans (show (boV b (.slice (some ⟨q, oq, none⟩) L.length cq))[20]? = some (.int .i64 b.bk) from rfl)
      have f20 : (wr.setCell ⟨w.heap.size, 18, none⟩ (.slice (some ⟨q, oq, none⟩) L.length cq)).frozen? ⟨w.heap.size, 20, none⟩ = false := by simp [World.frozen?, M4.a]
      obtain ⟨b2, hb2⟩ : ∃ b2 : Bo, b2 = { b with bk := b.bk + dN b } := ⟨_, rfl⟩
      have HB2 := Lib.hid hb2
      have M5 : Hid (CB0 w ((wr.setCell ⟨w.heap.size, 18, none⟩ (.slice (some ⟨q, oq, none⟩) L.length cq)).setCell ⟨w.heap.size, 20, none⟩ (.int .i64 K)) (boV b2 (.slice (some ⟨q, oq, none⟩) L.length cq))) := Lib.hid (M4.set 20 _ (by rw [hb2, EK.out]; rfl))
      have R5 : Hid (Rd ((wr.setCell ⟨w.heap.size, 18, none⟩ (.slice (some ⟨q, oq, none⟩) L.length cq)).setCell ⟨w.heap.size, 20, none⟩ (.int .i64 K)) (some ⟨q, oq, none⟩) L) := Lib.hid (rd_cell (rd_cell HS.out.rd (fun b' o' e => by cases e; exact HS.out.ne.1) 18 _) (fun b' o' e => by cases e; exact HS.out.ne.1) 20 _)
      have HNE := Lib.hid HS.out.ne
      have HFL : Hid (FillR K (b.hp / 256 * 256) l (some L)) := Lib.hid (HF.out _ (.stop HL.out))
      have hO5 := Lib.hid (boV_one b2 (some ⟨q, oq, none⟩) L.length cq)
      clear hb2 M4
      go_upto_region 15 with fail
      generalize (wr.setCell ⟨w.heap.size, 18, none⟩ (.slice (some ⟨q, oq, none⟩) L.length cq)).setCell ⟨w.heap.size, 20, none⟩ (.int .i64 K) = X at *
      clear w20 w18 f18 w20' f20 kM fM
      go_wp2_with (first | (refine wpList_load_row rfl 36 (.tmp 2) rfl w.heap.size rfl 36 (boV b2 (.slice (some ⟨q, oq, none⟩) L.length cq)) (0, 0) _ M5.out.a Tryz.underlying36 rfl (by rw [boV_size]; exact info30s) ?_) | (refine wpList_store_row rfl 36 (.tmp 4) (.tmp 51) rfl (w.heap.size + 1) (boV b2 (.slice (some ⟨q, oq, none⟩) L.length cq)) rfl rfl 36 _ M5.out.r (by rw [boV_size]; exact info30s) rfl hO5.out ?_))
      refine bodyPost_ret (v := .tuple #[.agg (boV b2 (.slice (some ⟨q, oq, none⟩) L.length cq)), .int .i64 b.bk]) (by exact results_cell_rowC Tryz.results35 _ _ (w.heap.size + 1) 36 (boV b2 (.slice (some ⟨q, oq, none⟩) L.length cq)) (0, 0) _ rfl (setRow_heap _ _ _ _ _ _ M5.out.r) Tryz.underlying36 rfl (by rw [boV_size]; exact info30s)) (by rfl) ?_
      exact ⟨b2, L, b.bk, q, oq, cq, Lib.hid (.inr (.inr ⟨by rw [← EK.out]; exact HIN.out, by rw [← EK.out]; exact HFL.out, HB2.out, rfl⟩)), rfl, Lib.hid (rd_row R5.out M5.out.r (fun b' o' e => by cases e; exact HNE.out.2.1)), Go.below_setRow M5.out.be (by omega) _, HOG.out⟩
end Go.Proofs.YtbkgmpkednkbcaaGreatDoor
namespace Go.Proofs.YtbkgmpkednkbcaaGreatDoor
open Go.RowKit Go.Sort
set_option linter.unusedVariables false
set_option linter.unusedSimpArgs false
theorem zeroB4 (v : Int) (w : World) : Calls Tryz.prog 32 #[.int .i64 v, .int .i64 4] w fun e w' => e = .returned (.int .i64 (v % 4294967296)) ∧ w' = w := by
  obtain ⟨X, hX⟩ := natU v
  refine (specZeroL v X 4 w hX (by omega) (by omega)).mono fun e w' h => ⟨?_, h.2.symm⟩
  have h1 : (X : Int) = v % 18446744073709551616 := by rw [← hX]; rfl
  rw [h.1]
  congr 2
  unfold wrap64
  omega
theorem loadBX {a : Act} {w : World} {o : Oper} {k b : Nat} {V : Array Value} (ho : o.op = Op.load 36 (.tmp k)) (hx : a.tmps[k]?.getD undef = .pointer (some ⟨b, 0, none⟩)) (h : w.heap[b]? = some (.cells V 36 (0, 0))) (hV : V.size = 30) : (execOp a.eval o).run Tryz.prog w = .ok (.value (.agg V)) w := by
  have hx' : a.eval (.tmp k) = .pointer (some ⟨b, 0, none⟩) := by show a.tmps.getD k undef = _; rw [Array.getD_eq_getD_getElem?]; exact hx
  obtain ⟨od, op, oty, ops, oaf, ogd⟩ := o
  simp only at ho
  subst ho
  have e : (Instr.loadAt 36 (.pointer (some ⟨b, 0, none⟩))).run Tryz.prog w = .ok (.agg V) w := by
    simp only [Instr.loadAt, Instr.sureAddr, Sem.run_bind, Sem.run_pure, Result.andThen_ok]
    exact run_loadVar_row w b 36 36 V (0, 0) _ h Tryz.underlying36 rfl (by rw [hV]; exact info30s)
  simp only [execOp, hx', Sem.run_bind, e, Result.andThen_ok, Sem.run_pure]
theorem SvSp.mono {g : Nat} {R R' : Bo → List Pg → Int → Prop} (h : ∀ b l v, R b l v → R' b l v) {w : World} {e : Ending} {w' : World} (hs : SvSp g R w e w') : SvSp g R' w e w' := by
  obtain ⟨b', l', v, g', o', c', h1, h2, h3, h4⟩ := hs
  exact ⟨b', l', v, g', o', c', Lib.hid (h _ _ _ h1.out), h2, h3, h4⟩
set_option maxHeartbeats 8000000 in
set_option maxRecDepth 100000 in
theorem ansS1 (b : Bo) (g o c : Nat) (l : List Pg) (w : World) (ho : BxOk b l) (hg : g < w.heap.size) (hr : Rd w (some ⟨g, o, none⟩) l) :
    Calls Tryz.prog 17 #[.agg (boV b (.slice (some ⟨g, o, none⟩) l.length c)), .int .i64 1] w fun e w' => SvSp g (SvAns b l 1) w e w' := by
  obtain ⟨o1, o2, o3, o4, o5, o6, o7, o8, o9, o10⟩ := ho
  have HNG : Hid (g < w.heap.size) := Lib.hid hg
  have CX := Lib.hid (fun (W : World) (hgW : g < W.heap.size) (hR : Rd W (some ⟨g, o, none⟩) l) => rdSp b g o c l W o2 o6 o5 hgW hR)
  clear hg
  have N0 := Lib.hid (CB0.new w (boV b (.slice (some ⟨g, o, none⟩) l.length c)))
  have hO := Lib.hid (boV_one b (some ⟨g, o, none⟩) l.length c)
  have HR := Lib.hid (hr.below N0.out.be)
  have hm := mixed
  clear hr
  go_enter Tryz.func17, Tryz.ntmps17
  go_upto_region 1 with fail
  change Code.wp _ _ _ _ ((w.alloc (.cells (boV b (.slice (some ⟨g, o, none⟩) l.length c)) 36)).alloc (.cells (boV bo0 (.slice none 0 0)) 36))
  generalize hW : (w.alloc (.cells (boV b (.slice (some ⟨g, o, none⟩) l.length c)) 36)).alloc (.cells (boV bo0 (.slice none 0 0)) 36) = W at *
  clear hW
  have a7 := (cell_of_row _ _ 7 _ _ _ N0.out.a).trans (show (boV b (.slice (some ⟨g, o, none⟩) l.length c))[7]? = some (.int .i64 (b.c.rs 7)) from rfl)
  have a6 := (cell_of_row _ _ 6 _ _ _ N0.out.a).trans (show (boV b (.slice (some ⟨g, o, none⟩) l.length c))[6]? = some (.int .i64 (b.c.rs 6)) from rfl)
  have C7 := Lib.hid (fun W => zeroB4 (b.c.rs 7) W)
  have C6 := Lib.hid (fun W => zeroB4 (b.c.rs 6) W)
  have EP : b.c.rs 7 % 4294967296 = pN b := rfl
  have EQ : b.c.rs 6 % 4294967296 = qN b := rfl
  go_wp2_with fail
  refine (C7.out _).mono ?_
  rintro e w1 ⟨rfl, rfl⟩
  rw [EP]
  go_wp2_with fail
  refine (C6.out _).mono ?_
  rintro e w1 ⟨rfl, rfl⟩
  rw [EQ]
  clear EP EQ C7 C6 a7 a6
  clear o1 o2 o3 o4 o5 o6 o7 o8 o9 o10
  have lr0 := lt_of_blk' N0.out.r
  have CX2 := Lib.hid (CX.out _ (by have := HNG.out; omega) HR.out)
  go_wp2_with (refine wpList_load_row rfl 36 (.tmp 2) rfl w.heap.size rfl 36 (boV b (.slice (some ⟨g, o, none⟩) l.length c)) (0, 0) _ N0.out.a Tryz.underlying36 rfl (by rw [boV_size]; exact info30s) ?_)
  refine (CX2.out).mono ?_
  rintro e w2 ⟨b', l', v2, g', o', c', hv, rfl, hrd, b2, hgg⟩
  have M2 := Lib.hid (N0.out.call b2)
  have HV := Lib.hid hv.out; have R2 := Lib.hid hrd.out
  have hO2 := Lib.hid (boV_one b' (some ⟨g', o', none⟩) l'.length c')
  have HNG2 : Hid (g' ≠ w.heap.size + 1) := Lib.hid (by have := HNG.out; omega)
  have HGG : Hid (g' = g ∨ w.heap.size ≤ g') := Lib.hid (by omega)
  clear b2 hv hrd CX CX2 lr0 hgg
  go_wp2_with (refine wpList_store_row rfl 36 (.tmp 4) (.tmp 26) rfl (w.heap.size + 1) (boV b' (.slice (some ⟨g', o', none⟩) l'.length c')) rfl rfl 36 _ M2.out.r (by rw [boV_size]; exact info30s) rfl hO2.out ?_)
  refine bodyPost_ret (v := .tuple #[.agg (boV b' (.slice (some ⟨g', o', none⟩) l'.length c')), .int .i64 v2]) (by exact results_cell_rowC Tryz.results17 _ _ (w.heap.size + 1) 36 (boV b' (.slice (some ⟨g', o', none⟩) l'.length c')) (0, 0) _ rfl (setRow_heap _ _ _ _ _ _ M2.out.r) Tryz.underlying36 rfl (by rw [boV_size]; exact info30s)) (by rfl) ?_
  exact ⟨b', l', v2, g', o', c', Lib.hid (.inl ⟨rfl, HV.out⟩), rfl, Lib.hid (rd_row R2.out M2.out.r (fun b0 o0 e => by cases e; exact HNG2.out)), Go.below_setRow M2.out.be (by omega) _, HGG.out⟩
set_option maxHeartbeats 8000000 in
set_option maxRecDepth 100000 in
theorem ansS2 (b : Bo) (g o c : Nat) (l : List Pg) (w : World) (ho : BxOk b l) (hg : g < w.heap.size) (hr : Rd w (some ⟨g, o, none⟩) l) :
    Calls Tryz.prog 17 #[.agg (boV b (.slice (some ⟨g, o, none⟩) l.length c)), .int .i64 2] w fun e w' => SvSp g (SvAns b l 2) w e w' := by
  obtain ⟨o1, o2, o3, o4, o5, o6, o7, o8, o9, o10⟩ := ho
  have HNG : Hid (g < w.heap.size) := Lib.hid hg
  have CX := Lib.hid (fun (W : World) (hgW : g < W.heap.size) (hR : Rd W (some ⟨g, o, none⟩) l) => wrS b g o c l W o2 o7 hgW hR)
  clear hg
  have N0 := Lib.hid (CB0.new w (boV b (.slice (some ⟨g, o, none⟩) l.length c)))
  have hO := Lib.hid (boV_one b (some ⟨g, o, none⟩) l.length c)
  have HR := Lib.hid (hr.below N0.out.be)
  have hm := mixed
  clear hr
  go_enter Tryz.func17, Tryz.ntmps17
  go_upto_region 1 with fail
  change Code.wp _ _ _ _ ((w.alloc (.cells (boV b (.slice (some ⟨g, o, none⟩) l.length c)) 36)).alloc (.cells (boV bo0 (.slice none 0 0)) 36))
  generalize hW : (w.alloc (.cells (boV b (.slice (some ⟨g, o, none⟩) l.length c)) 36)).alloc (.cells (boV bo0 (.slice none 0 0)) 36) = W at *
  clear hW
  have a7 := (cell_of_row _ _ 7 _ _ _ N0.out.a).trans (show (boV b (.slice (some ⟨g, o, none⟩) l.length c))[7]? = some (.int .i64 (b.c.rs 7)) from rfl)
  have a6 := (cell_of_row _ _ 6 _ _ _ N0.out.a).trans (show (boV b (.slice (some ⟨g, o, none⟩) l.length c))[6]? = some (.int .i64 (b.c.rs 6)) from rfl)
  have C7 := Lib.hid (fun W => zeroB4 (b.c.rs 7) W)
  have C6 := Lib.hid (fun W => zeroB4 (b.c.rs 6) W)
  have EP : b.c.rs 7 % 4294967296 = pN b := rfl
  have EQ : b.c.rs 6 % 4294967296 = qN b := rfl
  go_wp2_with fail
  refine (C7.out _).mono ?_
  rintro e w1 ⟨rfl, rfl⟩
  rw [EP]
  go_wp2_with fail
  refine (C6.out _).mono ?_
  rintro e w1 ⟨rfl, rfl⟩
  rw [EQ]
  clear EP EQ C7 C6 a7 a6
  clear o1 o2 o3 o4 o5 o6 o7 o8 o9 o10
  have lr0 := lt_of_blk' N0.out.r
  have CX2 := Lib.hid (CX.out _ (by have := HNG.out; omega) HR.out)
  go_wp2_with (refine wpList_load_row rfl 36 (.tmp 2) rfl w.heap.size rfl 36 (boV b (.slice (some ⟨g, o, none⟩) l.length c)) (0, 0) _ N0.out.a Tryz.underlying36 rfl (by rw [boV_size]; exact info30s) ?_)
  refine (CX2.out).mono ?_
  rintro e w2 ⟨b', l', v2, g', o', c', hv, rfl, hrd, b2, hgg⟩
  have M2 := Lib.hid (N0.out.call b2)
  have HV := Lib.hid hv.out; have R2 := Lib.hid hrd.out
  have hO2 := Lib.hid (boV_one b' (some ⟨g', o', none⟩) l'.length c')
  have HNG2 : Hid (g' ≠ w.heap.size + 1) := Lib.hid (by have := HNG.out; omega)
  have HGG : Hid (g' = g ∨ w.heap.size ≤ g') := Lib.hid (by omega)
  clear b2 hv hrd CX CX2 lr0 hgg
  go_wp2_with (refine wpList_store_row rfl 36 (.tmp 4) (.tmp 34) rfl (w.heap.size + 1) (boV b' (.slice (some ⟨g', o', none⟩) l'.length c')) rfl rfl 36 _ M2.out.r (by rw [boV_size]; exact info30s) rfl hO2.out ?_)
  refine bodyPost_ret (v := .tuple #[.agg (boV b' (.slice (some ⟨g', o', none⟩) l'.length c')), .int .i64 v2]) (by exact results_cell_rowC Tryz.results17 _ _ (w.heap.size + 1) 36 (boV b' (.slice (some ⟨g', o', none⟩) l'.length c')) (0, 0) _ rfl (setRow_heap _ _ _ _ _ _ M2.out.r) Tryz.underlying36 rfl (by rw [boV_size]; exact info30s)) (by rfl) ?_
  exact ⟨b', l', v2, g', o', c', Lib.hid (.inr (.inl ⟨rfl, HV.out⟩)), rfl, Lib.hid (rd_row R2.out M2.out.r (fun b0 o0 e => by cases e; exact HNG2.out)), Go.below_setRow M2.out.be (by omega) _, HGG.out⟩
end Go.Proofs.YtbkgmpkednkbcaaGreatDoor
namespace Go.Proofs.YtbkgmpkednkbcaaGreatDoor
open Go.RowKit Go.Sort
set_option linter.unusedVariables false
set_option linter.unusedSimpArgs false
/-- what l12Break answers, and its two parts -/
def BkTup (g : Nat) (b : Bo) (l : List Pg) (B : Nat) (w : World) (v : Value) : Prop := ∃ b' l' n g' o' c', SvBk b l b' l' n ∧ v = .tuple #[.agg (boV b' (.slice (some ⟨g', o', none⟩) l'.length c')), .int .i64 n] ∧ Rd w (some ⟨g', o', none⟩) l' ∧ (g' = g ∨ B ≤ g')
theorem BkTup.mono {g : Nat} {b : Bo} {l : List Pg} {B : Nat} {w w' : World} {v : Value} (he : Ext w w') (h : BkTup g b l B w v) : BkTup g b l B w' v := by
  obtain ⟨b', l', n, g', o', c', h1, h2, h3, h4⟩ := h
  exact ⟨b', l', n, g', o', c', h1, h2, h3.below he, h4⟩
def BkBox (g : Nat) (b : Bo) (l : List Pg) (B : Nat) (w : World) (v : Value) : Prop := ∃ b' l' n g' o' c', SvBk b l b' l' n ∧ v = .agg (boV b' (.slice (some ⟨g', o', none⟩) (List.length l') c')) ∧ Rd w (some ⟨g', o', none⟩) l' ∧ (g' = g ∨ B ≤ g')
theorem BkBox.mono {g : Nat} {b : Bo} {l : List Pg} {B : Nat} {w w' : World} {v : Value} (he : Ext w w') (h : BkBox g b l B w v) : BkBox g b l B w' v := by
  obtain ⟨b', l', n, g', o', c', h1, h2, h3, h4⟩ := h
  exact ⟨b', l', n, g', o', c', h1, h2, h3.below he, h4⟩
def BkNum (b : Bo) (l : List Pg) (w : World) (v : Value) : Prop := ∃ b' l' n, SvBk b l b' l' n ∧ v = .int .i64 n
theorem BkNum.mono {b : Bo} {l : List Pg} {w w' : World} {v : Value} (he : Ext w w') (h : BkNum b l w v) : BkNum b l w' v := h
set_option maxHeartbeats 8000000 in
set_option maxRecDepth 100000 in
theorem ansS3 (b : Bo) (g o c : Nat) (l : List Pg) (w : World) (ho : BxOk b l) (hg : g < w.heap.size) (hr : Rd w (some ⟨g, o, none⟩) l) :
    Calls Tryz.prog 17 #[.agg (boV b (.slice (some ⟨g, o, none⟩) l.length c)), .int .i64 3] w fun e w' => SvSp g (SvAns b l 3) w e w' := by
  obtain ⟨o1, o2, o3, o4, o5, o6, o7, o8, o9, o10⟩ := ho
  have HNG : Hid (g < w.heap.size) := Lib.hid hg
  have CX := Lib.hid (fun (W : World) (hgW : g < W.heap.size) (hR : Rd W (some ⟨g, o, none⟩) l) => bkS b g o c l W o2 ⟨o3.1, o4.1, o4.2⟩ hgW hR)
  clear hg
  have N0 := Lib.hid (CB0.new w (boV b (.slice (some ⟨g, o, none⟩) l.length c)))
  have hO := Lib.hid (boV_one b (some ⟨g, o, none⟩) l.length c)
  have HR := Lib.hid (hr.below N0.out.be)
  have hm := mixed
  clear hr
  go_enter Tryz.func17, Tryz.ntmps17
  go_upto_region 1 with fail
  change Code.wp _ _ _ _ ((w.alloc (.cells (boV b (.slice (some ⟨g, o, none⟩) l.length c)) 36)).alloc (.cells (boV bo0 (.slice none 0 0)) 36))
  generalize hW : (w.alloc (.cells (boV b (.slice (some ⟨g, o, none⟩) l.length c)) 36)).alloc (.cells (boV bo0 (.slice none 0 0)) 36) = W at *
  clear hW
  have a7 := (cell_of_row _ _ 7 _ _ _ N0.out.a).trans (show (boV b (.slice (some ⟨g, o, none⟩) l.length c))[7]? = some (.int .i64 (b.c.rs 7)) from rfl)
  have a6 := (cell_of_row _ _ 6 _ _ _ N0.out.a).trans (show (boV b (.slice (some ⟨g, o, none⟩) l.length c))[6]? = some (.int .i64 (b.c.rs 6)) from rfl)
  have C7 := Lib.hid (fun W => zeroB4 (b.c.rs 7) W)
  have C6 := Lib.hid (fun W => zeroB4 (b.c.rs 6) W)
  have EP : b.c.rs 7 % 4294967296 = pN b := rfl
  have EQ : b.c.rs 6 % 4294967296 = qN b := rfl
  go_wp2_with fail
  refine (C7.out _).mono ?_
  rintro e w1 ⟨rfl, rfl⟩
  rw [EP]
  go_wp2_with fail
  refine (C6.out _).mono ?_
  rintro e w1 ⟨rfl, rfl⟩
  rw [EQ]
  clear EP EQ C7 C6 a7 a6
  clear o1 o2 o3 o4 o5 o6 o7 o8 o9 o10
  go_upto_region 9 with fail
  refine wp_region_krs 6 [fun _ v => v = .agg (boV b (.slice (some ⟨g, o, none⟩) l.length c)), fun _ v => v = .int .i64 (pN b), fun _ v => v = .int .i64 (dN b), BkTup g b l w1.heap.size, BkBox g b l w1.heap.size, BkNum b l] hm (by rfl) (by kernel_rfl) (by kernel_rfl) (by kernel_rfl) (by kernel_rfl) (by kernel_rfl) ?_ ?_ ?_
  · intro j V hV w1 w2 v he h
    have hm := List.mem_of_getElem? hV
    simp only [List.mem_cons, List.not_mem_nil, or_false] at hm
    rcases hm with rfl | rfl | rfl | rfl | rfl | rfl
    all_goals first | exact h | exact BkBox.mono he h | exact BkNum.mono he h | exact BkTup.mono he h
  · intro i hi o V ho hV a wx he hs hd
    have hi' : i = 0 ∨ i = 1 ∨ i = 2 ∨ i = 3 ∨ i = 4 ∨ i = 5 := by simp at hi; omega
    clear hi
    rcases hi' with rfl | rfl | rfl | rfl | rfl | rfl
    all_goals obtain rfl := Option.some.inj ho
    all_goals obtain rfl := Option.some.inj hV
    · have e2 := slotX (v := .pointer (some ⟨w.heap.size, 0, none⟩)) hs (k := 2) (noDstX (by kernel_rfl)) rfl
      rw [loadBX rfl e2 (N0.out.call he).a (boV_size _ _)]
      exact ⟨Below.refl _ _, rfl⟩
    · have e6 := slotX (v := .int .i64 (pN b)) hs (k := 6) (noDstX (by kernel_rfl)) rfl
      go_simp
      exact ⟨Below.refl _ _, rfl⟩
    · have e39 := getX (show a.tmps.getD 39 undef = .int .i64 (pN b) from hd ⟨1, .data⟩ (by simp) rfl _ _ _ rfl rfl rfl)
      refine callKX (vals := #[.int .i64 (pN b), .int .i64 4]) rfl (by simp only [List.map_toArray, List.map_cons, List.map_nil, Act.eval, Array.getD_eq_getD_getElem?, e39]; try rfl) (by go_simp) ((signB4 (pN b) wx).mono ?_)
      rintro e w' ⟨rfl, rfl⟩
      exact ⟨_, rfl, Below.refl _ _, rfl⟩
    · have e38 := getX (show a.tmps.getD 38 undef = .agg (boV b (.slice (some ⟨g, o, none⟩) l.length c)) from hd ⟨0, .data⟩ (by simp) rfl _ _ _ rfl rfl rfl)
      have e40 := getX (show a.tmps.getD 40 undef = .int .i64 (dN b) from hd ⟨2, .data⟩ (by simp) rfl _ _ _ rfl rfl rfl)
      refine callKX (vals := #[.agg (boV b (.slice (some ⟨g, o, none⟩) l.length c)), .int .i64 (dN b)]) rfl (by simp only [List.map_toArray, List.map_cons, List.map_nil, Act.eval, Array.getD_eq_getD_getElem?, e38, e40]; try rfl) (by go_simp) ?_
      refine (CX.out wx (by have := HNG.out; have := (N0.out.call he).be.size; omega) (HR.out.below he)).mono ?_
      rintro e w' ⟨b', l', v2, g', o', c', hv, rfl, hrd, b2, hgg⟩
      exact ⟨_, rfl, b2, b', l', v2, g', o', c', hv.out, rfl, hrd.out, by have := he.size; omega⟩
    · have r41 : (BkTup g b l w1.heap.size) wx (a.tmps.getD 41 undef) := hd ⟨3, .data⟩ (by simp) rfl _ _ _ rfl rfl rfl
      obtain ⟨b', l', v2, g', o', c', h1, e41, h3, h4⟩ := r41
      have e41 := getX e41
      go_simp
      exact ⟨Below.refl _ _, b', l', v2, g', o', c', h1, rfl, h3, h4⟩
    · have r41 : (BkTup g b l w1.heap.size) wx (a.tmps.getD 41 undef) := hd ⟨3, .data⟩ (by simp) rfl _ _ _ rfl rfl rfl
      obtain ⟨b', l', v2, g', o', c', h1, e41, h3, h4⟩ := r41
      have e41 := getX e41
      go_simp
      exact ⟨Below.refl _ _, b', l', v2, h1, rfl⟩
  intro a w3 he hs hh
  obtain ⟨b', l', v2, g', o', c', hv, e42, hrd, hgg⟩ : BkBox g b l w1.heap.size w3 (a.tmps.getD 42 undef) := hh 4 (by simp) _ _ _ rfl rfl rfl
  obtain ⟨b3, l3, v3, hv3, e43⟩ : BkNum b l w3 (a.tmps.getD 43 undef) := hh 5 (by simp) _ _ _ rfl rfl rfl
  obtain ⟨rfl, rfl, rfl⟩ := hv.one hv3
  have ea := same_litL hs [38, 39, 40, 41, 42, 43, 5] (by kernel_rfl) _ rfl
  simp only [List.foldl_cons, List.foldl_nil, List.set_cons_succ, List.set_cons_zero] at ea
  rw [e42, e43] at ea
  generalize a.tmps.getD 38 undef = y38 at ea
  generalize a.tmps.getD 39 undef = y39 at ea
  generalize a.tmps.getD 40 undef = y40 at ea
  generalize a.tmps.getD 41 undef = y41 at ea
  generalize a.tmps.getD 5 undef = y5 at ea
  clear hh hs e42 e43
  subst ea
  have lr0 := lt_of_blk' N0.out.r
  have M2 := Lib.hid (N0.out.call he)
  have HV := Lib.hid hv; have R2 := Lib.hid hrd
  have HNG2 : Hid (g' ≠ w.heap.size + 1) := Lib.hid (by have := HNG.out; omega)
  have HGG : Hid (g' = g ∨ w.heap.size ≤ g') := Lib.hid (by omega)
  have hO2 := Lib.hid (boV_one b' (some ⟨g', o', none⟩) l'.length c')
  clear hv hv3 hrd hgg he
  simp only [List.drop_succ_cons, List.drop_zero, List.drop_nil, wpTail]
  refine wp_store_row 36 (.tmp 4) (.tmp 42) rfl (w.heap.size + 1) (boV b' (.slice (some ⟨g', o', none⟩) l'.length c')) rfl rfl 36 _ M2.out.r (by rw [boV_size]; exact info30s) rfl hO2.out ?_
  go_step
  go_wp2
  refine bodyPost_ret (v := .tuple #[.agg (boV b' (.slice (some ⟨g', o', none⟩) l'.length c')), .int .i64 v2]) (by exact results_cell_rowC Tryz.results17 _ _ (w.heap.size + 1) 36 (boV b' (.slice (some ⟨g', o', none⟩) l'.length c')) (0, 0) _ rfl (setRow_heap _ _ _ _ _ _ M2.out.r) Tryz.underlying36 rfl (by rw [boV_size]; exact info30s)) (by rfl) ?_
  exact ⟨b', l', v2, g', o', c', Lib.hid (.inr (.inr (.inl ⟨rfl, HV.out⟩))), rfl, Lib.hid (rd_row R2.out M2.out.r (fun b0 o0 e => by cases e; exact HNG2.out)), Go.below_setRow M2.out.be (by omega) _, HGG.out⟩
set_option maxHeartbeats 8000000 in
set_option maxRecDepth 100000 in
theorem ansS4 (b : Bo) (g o c : Nat) (l : List Pg) (w : World) (ho : BxOk b l) (hg : g < w.heap.size) (hr : Rd w (some ⟨g, o, none⟩) l) :
    Calls Tryz.prog 17 #[.agg (boV b (.slice (some ⟨g, o, none⟩) l.length c)), .int .i64 4] w fun e w' => SvSp g (SvAns b l 4) w e w' := by
  obtain ⟨o1, o2, o3, o4, o5, o6, o7, o8, o9, o10⟩ := ho
  have HNG : Hid (g < w.heap.size) := Lib.hid hg
  clear hg
  have N0 := Lib.hid (CB0.new w (boV b (.slice (some ⟨g, o, none⟩) l.length c)))
  have hO := Lib.hid (boV_one b (some ⟨g, o, none⟩) l.length c)
  have HR := Lib.hid (hr.below N0.out.be)
  have hm := mixed
  clear hr
  go_enter Tryz.func17, Tryz.ntmps17
  go_upto_region 1 with fail
  change Code.wp _ _ _ _ ((w.alloc (.cells (boV b (.slice (some ⟨g, o, none⟩) l.length c)) 36)).alloc (.cells (boV bo0 (.slice none 0 0)) 36))
  generalize hW : (w.alloc (.cells (boV b (.slice (some ⟨g, o, none⟩) l.length c)) 36)).alloc (.cells (boV bo0 (.slice none 0 0)) 36) = W at *
  clear hW
  have a7 := (cell_of_row _ _ 7 _ _ _ N0.out.a).trans (show (boV b (.slice (some ⟨g, o, none⟩) l.length c))[7]? = some (.int .i64 (b.c.rs 7)) from rfl)
  have a6 := (cell_of_row _ _ 6 _ _ _ N0.out.a).trans (show (boV b (.slice (some ⟨g, o, none⟩) l.length c))[6]? = some (.int .i64 (b.c.rs 6)) from rfl)
  have C7 := Lib.hid (fun W => zeroB4 (b.c.rs 7) W)
  have C6 := Lib.hid (fun W => zeroB4 (b.c.rs 6) W)
  have EP : b.c.rs 7 % 4294967296 = pN b := rfl
  have EQ : b.c.rs 6 % 4294967296 = qN b := rfl
  go_wp2_with fail
  refine (C7.out _).mono ?_
  rintro e w1 ⟨rfl, rfl⟩
  rw [EP]
  go_wp2_with fail
  refine (C6.out _).mono ?_
  rintro e w1 ⟨rfl, rfl⟩
  rw [EQ]
  clear EP EQ C7 C6 a7 a6
  have e1 : IntKind.i64.wrap (b.ck + 1) = b.ck + 1 := IntWalk.i64_in _ (by omega)
  have z24 := (cell_of_row _ _ 24 _ _ _ N0.out.a).trans (show (boV b (.slice (some ⟨g, o, none⟩) l.length c))[24]? = some (.int .i64 b.ck) from rfl)
  have f24 : w1.frozen? ⟨w.heap.size, 24, none⟩ = false := by simp [World.frozen?, N0.out.a]
  obtain ⟨b2, hb2⟩ : ∃ b2 : Bo, b2 = { b with ck := min (b.ck + 1) 1000000 } := ⟨_, rfl⟩
  have HB2 := Lib.hid hb2
  have M2 : Hid (CB0 w (w1.setCell ⟨w.heap.size, 24, none⟩ (.int .i64 (min (b.ck + 1) 1000000))) (boV b2 (.slice (some ⟨g, o, none⟩) l.length c))) := Lib.hid (N0.out.set 24 _ (by rw [hb2]; rfl))
  have R2 := Lib.hid (rd_cell (g := w.heap.size) HR.out (fun b0 o0 e => by cases e; have := HNG.out; omega) 24 (.int .i64 (min (b.ck + 1) 1000000)))
  have hO2 := Lib.hid (boV_one b2 (some ⟨g, o, none⟩) l.length c)
  clear o1 o2 o3 o4 o5 o6 o7 o8 o9 o10 hb2
  go_upto_region 13 with fail
  generalize w1.setCell ⟨w.heap.size, 24, none⟩ (.int .i64 (min (b.ck + 1) 1000000)) = X at *
  clear z24 f24 e1 N0 HR
  go_wp2_with (first | (refine wpList_load_row rfl 36 (.tmp 2) rfl w.heap.size rfl 36 (boV b2 (.slice (some ⟨g, o, none⟩) l.length c)) (0, 0) _ M2.out.a Tryz.underlying36 rfl (by rw [boV_size]; exact info30s) ?_) | (refine wpList_store_row rfl 36 (.tmp 4) (.tmp 52) rfl (w.heap.size + 1) (boV b2 (.slice (some ⟨g, o, none⟩) l.length c)) rfl rfl 36 _ M2.out.r (by rw [boV_size]; exact info30s) rfl hO2.out ?_))
  refine bodyPost_ret (v := .tuple #[.agg (boV b2 (.slice (some ⟨g, o, none⟩) l.length c)), .int .i64 b.ck]) (by exact results_cell_rowC Tryz.results17 _ _ (w.heap.size + 1) 36 (boV b2 (.slice (some ⟨g, o, none⟩) l.length c)) (0, 0) _ rfl (setRow_heap _ _ _ _ _ _ M2.out.r) Tryz.underlying36 rfl (by rw [boV_size]; exact info30s)) (by rfl) ?_
  exact ⟨b2, l, b.ck, g, o, c, Lib.hid (.inr (.inr (.inr (.inl ⟨rfl, HB2.out, rfl, rfl⟩)))), rfl, Lib.hid (rd_row R2.out M2.out.r (fun b0 o0 e => by cases e; have := HNG.out; omega)), Go.below_setRow M2.out.be (by omega) _, .inl rfl⟩
set_option maxHeartbeats 8000000 in
set_option maxRecDepth 100000 in
theorem ansSN (n : Int) (hn : n < 1 ∨ 5 < n) (b : Bo) (g o c : Nat) (l : List Pg) (w : World) (ho : BxOk b l) (hg : g < w.heap.size) (hr : Rd w (some ⟨g, o, none⟩) l) :
    Calls Tryz.prog 17 #[.agg (boV b (.slice (some ⟨g, o, none⟩) l.length c)), .int .i64 n] w fun e w' => SvSp g (SvAns b l n) w e w' := by
  have q1 : (n == 1) = false := by simpa using (show ¬ n = 1 by omega)
  have q2 : (n == 2) = false := by simpa using (show ¬ n = 2 by omega)
  have q3 : (n == 3) = false := by simpa using (show ¬ n = 3 by omega)
  have q4 : (n == 4) = false := by simpa using (show ¬ n = 4 by omega)
  have q5 : (n == 5) = false := by simpa using (show ¬ n = 5 by omega)
  obtain ⟨o1, o2, o3, o4, o5, o6, o7, o8, o9, o10⟩ := ho
  have HNG : Hid (g < w.heap.size) := Lib.hid hg
  have HN := Lib.hid hn
  clear hg
  have N0 := Lib.hid (CB0.new w (boV b (.slice (some ⟨g, o, none⟩) l.length c)))
  have hO := Lib.hid (boV_one b (some ⟨g, o, none⟩) l.length c)
  have HR := Lib.hid (hr.below N0.out.be)
  have hm := mixed
  clear hr
  go_enter Tryz.func17, Tryz.ntmps17
  go_upto_region 1 with fail
  change Code.wp _ _ _ _ ((w.alloc (.cells (boV b (.slice (some ⟨g, o, none⟩) l.length c)) 36)).alloc (.cells (boV bo0 (.slice none 0 0)) 36))
  generalize hW : (w.alloc (.cells (boV b (.slice (some ⟨g, o, none⟩) l.length c)) 36)).alloc (.cells (boV bo0 (.slice none 0 0)) 36) = W at *
  clear hW
  have a7 := (cell_of_row _ _ 7 _ _ _ N0.out.a).trans (show (boV b (.slice (some ⟨g, o, none⟩) l.length c))[7]? = some (.int .i64 (b.c.rs 7)) from rfl)
  have a6 := (cell_of_row _ _ 6 _ _ _ N0.out.a).trans (show (boV b (.slice (some ⟨g, o, none⟩) l.length c))[6]? = some (.int .i64 (b.c.rs 6)) from rfl)
  have C7 := Lib.hid (fun W => zeroB4 (b.c.rs 7) W)
  have C6 := Lib.hid (fun W => zeroB4 (b.c.rs 6) W)
  have EP : b.c.rs 7 % 4294967296 = pN b := rfl
  have EQ : b.c.rs 6 % 4294967296 = qN b := rfl
  go_wp2_with fail
  refine (C7.out _).mono ?_
  rintro e w1 ⟨rfl, rfl⟩
  rw [EP]
  go_wp2_with fail
  refine (C6.out _).mono ?_
  rintro e w1 ⟨rfl, rfl⟩
  rw [EQ]
  clear EP EQ C7 C6 a7 a6
  clear o1 o2 o3 o4 o5 o6 o7 o8 o9 o10 hn
  have M2 := N0; have R2 := HR
  go_wp2_with (first | (refine wpList_load_row rfl 36 (.tmp 2) rfl w.heap.size rfl 36 (boV b (.slice (some ⟨g, o, none⟩) l.length c)) (0, 0) _ M2.out.a Tryz.underlying36 rfl (by rw [boV_size]; exact info30s) ?_) | (refine wpList_store_row rfl 36 (.tmp 4) (.tmp 66) rfl (w.heap.size + 1) (boV b (.slice (some ⟨g, o, none⟩) l.length c)) rfl rfl 36 _ M2.out.r (by rw [boV_size]; exact info30s) rfl hO.out ?_))
  refine bodyPost_ret (v := .tuple #[.agg (boV b (.slice (some ⟨g, o, none⟩) l.length c)), .int .i64 (-38)]) (by exact results_cell_rowC Tryz.results17 _ _ (w.heap.size + 1) 36 (boV b (.slice (some ⟨g, o, none⟩) l.length c)) (0, 0) _ rfl (setRow_heap _ _ _ _ _ _ M2.out.r) Tryz.underlying36 rfl (by rw [boV_size]; exact info30s)) (by rfl) ?_
  exact ⟨b, l, (-38), g, o, c, Lib.hid (.inr (.inr (.inr (.inr (.inr ⟨HN.out, rfl, rfl, rfl⟩))))), rfl, Lib.hid (rd_row R2.out M2.out.r (fun b0 o0 e => by cases e; have := HNG.out; omega)), Go.below_setRow M2.out.be (by omega) _, .inl rfl⟩
end Go.Proofs.YtbkgmpkednkbcaaGreatDoor
namespace Go.Proofs.YtbkgmpkednkbcaaGreatDoor
open Go.RowKit Go.Sort
set_option linter.unusedVariables false
set_option linter.unusedSimpArgs false
theorem storeBX {V : World → Value → Prop} {a : Act} {w : World} {o : Oper} {x y g : Nat} {cells old : Array Value} (ho : o.op = Op.store 36 (.tmp x) (.tmp y)) (hx : a.tmps[x]?.getD undef = .pointer (some ⟨g, 0, none⟩)) (hy : a.tmps[y]?.getD undef = .agg cells) (hg : w.heap[g]? = some (.cells old 36 (0, 0))) (hs : cells.size = 30) (hold : old.size = cells.size) (h1 : cells.all (·.oneCell') = true)
    (h : V (w.setRow g cells) undef) : upK Tryz.prog V ((execOp a.eval o).run Tryz.prog w) := by
  have hx' : a.eval (.tmp x) = .pointer (some ⟨g, 0, none⟩) := by show a.tmps.getD x undef = _; rw [Array.getD_eq_getD_getElem?]; exact hx
  have hy' : a.eval (.tmp y) = .agg cells := by show a.tmps.getD y undef = _; rw [Array.getD_eq_getD_getElem?]; exact hy
  unfold execOp
  simp only [ho, hx', hy', Instr.storeAt, Instr.sureAddr, Sem.run_bind, Sem.run_pure, Result.andThen_ok, run_storeVar_row w g 36 36 old cells hg (by rw [hs]; exact info30s) hold h1]
  exact h
/-- while a box is stored as a result: which boxes stand there, by whether it has been stored -/
def StC (w : World) (A : Array Value) (p : Option Addr) (l : List Pg) (d : Bool) (wx : World) : Prop := wx.heap[w.heap.size]? = some (.cells A 36 (0, 0)) ∧ wx.heap[w.heap.size + 1]? = some (.cells (bif d then A else boV bo0 (.slice none 0 0)) 36 (0, 0)) ∧ Below w.heap.size w wx ∧ Rd wx p l
set_option maxHeartbeats 8000000 in
set_option maxRecDepth 100000 in
theorem ansS5 (b : Bo) (g o c : Nat) (l : List Pg) (w : World) (ho : BxOk b l) (hg : g < w.heap.size) (hr : Rd w (some ⟨g, o, none⟩) l) :
    Calls Tryz.prog 17 #[.agg (boV b (.slice (some ⟨g, o, none⟩) l.length c)), .int .i64 5] w fun e w' => SvSp g (SvAns b l 5) w e w' := by
  obtain ⟨o1, o2, o3, o4, o5, o6, o7, o8, o9, o10⟩ := ho
  have HNG : Hid (g < w.heap.size) := Lib.hid hg
  clear hg
  have N0 := Lib.hid (CB0.new w (boV b (.slice (some ⟨g, o, none⟩) l.length c)))
  have hO := Lib.hid (boV_one b (some ⟨g, o, none⟩) l.length c)
  have HR := Lib.hid (hr.below N0.out.be)
  have hm := mixed
  clear hr
  go_enter Tryz.func17, Tryz.ntmps17
  go_upto_region 1 with fail
  change Code.wp _ _ _ _ ((w.alloc (.cells (boV b (.slice (some ⟨g, o, none⟩) l.length c)) 36)).alloc (.cells (boV bo0 (.slice none 0 0)) 36))
  generalize hW : (w.alloc (.cells (boV b (.slice (some ⟨g, o, none⟩) l.length c)) 36)).alloc (.cells (boV bo0 (.slice none 0 0)) 36) = W at *
  clear hW
  have a7 := (cell_of_row _ _ 7 _ _ _ N0.out.a).trans (show (boV b (.slice (some ⟨g, o, none⟩) l.length c))[7]? = some (.int .i64 (b.c.rs 7)) from rfl)
  have a6 := (cell_of_row _ _ 6 _ _ _ N0.out.a).trans (show (boV b (.slice (some ⟨g, o, none⟩) l.length c))[6]? = some (.int .i64 (b.c.rs 6)) from rfl)
  have C7 := Lib.hid (fun W => zeroB4 (b.c.rs 7) W)
  have C6 := Lib.hid (fun W => zeroB4 (b.c.rs 6) W)
  have EP : b.c.rs 7 % 4294967296 = pN b := rfl
  have EQ : b.c.rs 6 % 4294967296 = qN b := rfl
  go_wp2_with fail
  refine (C7.out _).mono ?_
  rintro e w1 ⟨rfl, rfl⟩
  rw [EP]
  go_wp2_with fail
  refine (C6.out _).mono ?_
  rintro e w1 ⟨rfl, rfl⟩
  rw [EQ]
  clear EP EQ C7 C6 a7 a6
  have e1 : IntKind.i64.wrap (b.sd * 1103515245) = b.sd * 1103515245 := IntWalk.i64_in _ (by omega)
  have e2 : IntKind.i64.wrap (b.sd * 1103515245 + 12345) = b.sd * 1103515245 + 12345 := IntWalk.i64_in _ (by omega)
  have hx0 : 0 ≤ b.sd * 1103515245 + 12345 := by omega
  obtain ⟨s, hs⟩ : ∃ s, s = (b.sd * 1103515245 + 12345) % 2147483648 := ⟨_, rfl⟩
  have hs1 : 0 ≤ s ∧ s ≤ 2147483647 := by omega
  have hsE : (1103515245 * b.sd + 12345) % 2147483648 = s := by rw [hs]; congr 2; omega
  have HSE := Lib.hid hsE; have HS := Lib.hid hs; have HS1 := Lib.hid hs1
  have z25 := (cell_of_row _ _ 25 _ _ _ N0.out.a).trans (show (boV b (.slice (some ⟨g, o, none⟩) l.length c))[25]? = some (.int .i64 b.sd) from rfl)
  have f25 : w1.frozen? ⟨w.heap.size, 25, none⟩ = false := by simp [World.frozen?, N0.out.a]
  obtain ⟨b2, hb2⟩ : ∃ b2 : Bo, b2 = { b with sd := s } := ⟨_, rfl⟩
  have HB2 := Lib.hid hb2
  have M2 : Hid (CB0 w (w1.setCell ⟨w.heap.size, 25, none⟩ (.int .i64 s)) (boV b2 (.slice (some ⟨g, o, none⟩) l.length c))) := Lib.hid (N0.out.set 25 _ (by rw [hb2]; rfl))
  have R2 := Lib.hid (rd_cell (g := w.heap.size) HR.out (fun b0 o0 e => by cases e; have := HNG.out; omega) 25 (.int .i64 s))
  have hO2 := Lib.hid (boV_one b2 (some ⟨g, o, none⟩) l.length c)
  clear o1 o2 o3 o4 o5 o6 o7 o8 o9 o10 hb2 hs1 hsE hs
  go_upto_region 16 with fail
  rw [← HS.out]
  generalize w1.setCell ⟨w.heap.size, 25, none⟩ (.int .i64 s) = X at *
  clear z25 f25 e1 e2 hx0 N0 HR
  have hs1 := HS1.out
  have hs0 : 0 ≤ s := hs1.1
  have eQ65 : IntKind.i64.wrap (s.tdiv 65536) = s / 65536 := by rw [Int.tdiv_eq_ediv_of_nonneg hs0]; exact IntWalk.i64_in _ (by omega)
  have hC0 : StC w (boV b2 (.slice (some ⟨g, o, none⟩) l.length c)) (some ⟨g, o, none⟩) l false X.drew := ⟨M2.out.a, M2.out.r, M2.out.be.trans ((below_drew1 X).mono M2.out.be.size), R2.out.below (below_drew1 X)⟩
  have hgB : True := trivial
  refine wp_region_kv (fun _ _ => True) (StC w (boV b2 (.slice (some ⟨g, o, none⟩) l.length c)) (some ⟨g, o, none⟩) l) 4 [fun _ v => v = .agg (boV b2 (.slice (some ⟨g, o, none⟩) l.length c)), fun _ v => v = .pointer (some ⟨w.heap.size, 25, none⟩), fun _ v => v = .int .i64 s, fun _ v => v = .int .i64 (s / 65536), fun _ _ => True, fun _ v => v = .int .i64 (s / 65536)] hm (by rfl) (by kernel_rfl) (by kernel_rfl) (by kernel_rfl) (by kernel_rfl) (by decide) ?_ ?_ ?_ ?_
  · exact hC0
  · intro j V hV w1 w2 v he h
    have hm := List.mem_of_getElem? hV
    simp only [List.mem_cons, List.not_mem_nil, or_false] at hm
    rcases hm with rfl | rfl | rfl | rfl | rfl | rfl
    all_goals first | exact h
  · intro i hi o V ho hV d a wx hC hj hd0 hs hd
    have hi' : i = 0 ∨ i = 1 ∨ i = 2 ∨ i = 3 ∨ i = 4 ∨ i = 5 := by simp at hi; omega
    clear hi
    rcases hi' with rfl | rfl | rfl | rfl | rfl | rfl
    all_goals obtain rfl := Option.some.inj ho
    all_goals obtain rfl := Option.some.inj hV
    · have e2 := slotW (v := .pointer (some ⟨w.heap.size, 0, none⟩)) hs (k := 2) (noDstW (by kernel_rfl)) rfl
      rw [loadBX rfl e2 hC.1 (boV_size _ _)]
      first | exact ⟨hC, rfl⟩ | exact ⟨trivial, by cases d <;> exact hC, rfl⟩
    · have e2 := slotW (v := .pointer (some ⟨w.heap.size, 0, none⟩)) hs (k := 2) (noDstW (by kernel_rfl)) rfl
      go_simp
      first | exact ⟨hC, rfl⟩ | exact ⟨trivial, by cases d <;> exact hC, rfl⟩
    · have e63 := getX (show a.tmps.getD 63 undef = .pointer (some ⟨w.heap.size, 25, none⟩) from hd ⟨1, .data⟩ (by simp) rfl _ _ _ rfl rfl rfl)
      have hc := (cell_of_row _ _ 25 _ _ _ hC.1).trans (show (boV b2 (.slice (some ⟨g, o, none⟩) l.length c))[25]? = some (.int .i64 s) from by rw [HB2.out]; rfl)
      go_simp
      first | exact ⟨hC, rfl⟩ | exact ⟨trivial, by cases d <;> exact hC, rfl⟩
    · have e64 := getX (show a.tmps.getD 64 undef = .int .i64 s from hd ⟨2, .data⟩ (by simp) rfl _ _ _ rfl rfl rfl)
      go_simp
      first | exact ⟨hC, rfl⟩ | exact ⟨hC, by rw [eQ65]⟩ | exact ⟨trivial, by cases d <;> exact hC, by rw [eQ65]⟩ | exact ⟨trivial, by cases d <;> exact hC, rfl⟩
    · obtain rfl : d = false := hj rfl
      have e4 := slotW (v := .pointer (some ⟨w.heap.size + 1, 0, none⟩)) hs (k := 4) (noDstW (by kernel_rfl)) rfl
      have e62 := getX (show a.tmps.getD 62 undef = .agg (boV b2 (.slice (some ⟨g, o, none⟩) l.length c)) from hd ⟨0, .data⟩ (by simp) rfl _ _ _ rfl rfl rfl)
      refine storeBX rfl e4 e62 hC.2.1 (boV_size _ _) rfl hO2.out ?_
      exact ⟨trivial, ⟨(setRow_far _ _ _ _ (by omega)).trans hC.1, setRow_heap _ _ _ _ _ _ hC.2.1, Go.below_setRow hC.2.2.1 (by omega) _, rd_row hC.2.2.2 hC.2.1 (fun b0 o0 e => by cases e; have := HNG.out; omega)⟩, trivial⟩
    · have e65 := getX (show a.tmps.getD 65 undef = .int .i64 (s / 65536) from hd ⟨3, .data⟩ (by simp) rfl _ _ _ rfl rfl rfl)
      go_simp
      first | exact ⟨hC, rfl⟩ | exact ⟨trivial, by cases d <;> exact hC, rfl⟩
  intro a w3 hC hs hh
  have e5 : a.tmps.getD 5 undef = .int .i64 (s / 65536) := hh 5 (by simp) _ _ _ rfl rfl rfl
  have ea := same_litL hs [62, 63, 64, 65, 5] (by kernel_rfl) _ rfl
  simp only [List.foldl_cons, List.foldl_nil, List.set_cons_succ, List.set_cons_zero] at ea
  rw [e5] at ea
  generalize a.tmps.getD 62 undef = y62 at ea
  generalize a.tmps.getD 63 undef = y63 at ea
  generalize a.tmps.getD 64 undef = y64 at ea
  generalize a.tmps.getD 65 undef = y65 at ea
  clear hh hs e5
  subst ea
  have HC3 := Lib.hid hC
  clear hC M2 R2
  go_wp2
  refine bodyPost_ret (v := .tuple #[.agg (boV b2 (.slice (some ⟨g, o, none⟩) l.length c)), .int .i64 (s / 65536)]) (by exact results_cell_rowC Tryz.results17 _ _ (w.heap.size + 1) 36 (boV b2 (.slice (some ⟨g, o, none⟩) l.length c)) (0, 0) _ rfl HC3.out.2.1 Tryz.underlying36 rfl (by rw [boV_size]; exact info30s)) (by rfl) ?_
  exact ⟨b2, l, (s / 65536), g, o, c, Lib.hid (.inr (.inr (.inr (.inr (.inl ⟨rfl, by rw [HSE.out]; exact HB2.out, rfl, by rw [HSE.out]⟩))))), rfl, Lib.hid HC3.out.2.2.2, HC3.out.2.2.1, .inl rfl⟩
theorem ansSall (n : Int) (b : Bo) (g o c : Nat) (l : List Pg) (w : World) (ho : BxOk b l) (hg : g < w.heap.size) (hr : Rd w (some ⟨g, o, none⟩) l) :
    Calls Tryz.prog 17 #[.agg (boV b (.slice (some ⟨g, o, none⟩) l.length c)), .int .i64 n] w fun e w' => SvSp g (SvAns b l n) w e w' := by
  by_cases hn : n < 1 ∨ 5 < n
  · exact ansSN n hn b g o c l w ho hg hr
  · obtain rfl | rfl | rfl | rfl | rfl : n = 1 ∨ n = 2 ∨ n = 3 ∨ n = 4 ∨ n = 5 := by omega
    · exact ansS1 b g o c l w ho hg hr
    · exact ansS2 b g o c l w ho hg hr
    · exact ansS3 b g o c l w ho hg hr
    · exact ansS4 b g o c l w ho hg hr
    · exact ansS5 b g o c l w ho hg hr
end Go.Proofs.YtbkgmpkednkbcaaGreatDoor
namespace Go.Proofs.YtbkgmpkednkbcaaGreatDoor
open Go.RowKit Go.Sort
set_option linter.unusedVariables false
set_option linter.unusedSimpArgs false
theorem SvAns.len {b b' : Bo} {l l' : List Pg} {n v : Int} (ho : BxOk b l) (hs : Small l) (h : SvAns b l n b' l' v) : l'.length ≤ 32 := by
  have hm := ho.2.1
  have h3 := ho.2.2.1
  rcases h with ⟨_, h⟩ | ⟨_, h⟩ | ⟨_, h⟩ | ⟨_, _, rfl, _⟩ | ⟨_, _, rfl, _⟩ | ⟨_, _, rfl, _⟩
  · rcases h with ⟨_, _, rfl, _⟩ | ⟨_, h, _⟩
    · exact hm.1
    · exact (lay_shape hm h).1.1
  · rcases h with ⟨_, _, rfl, _⟩ | ⟨_, _, _, rfl, _⟩ | ⟨_, _, _, rfl, _⟩ <;> exact hm.1
  · rcases h with ⟨_, _, rfl, _⟩ | ⟨_, _, _, rfl, _⟩ | ⟨h1, h, _⟩
    · exact hm.1
    · exact hm.1
    · exact (h.ok _ rfl hm hs ⟨by omega, by omega⟩ h1.2).1.1
  · exact hm.1
  · exact hm.1
  · exact hm.1
set_option maxHeartbeats 8000000 in
set_option maxRecDepth 100000 in
theorem answerS (n : Int) (b : Bo) (g o c : Nat) (l : List Pg) (v : Bool) (w : World) (hv : v = true ↔ FlOK b.c.fl) (HI : ∀ w, Calls Tryz.prog 56 #[.agg (cpV b.c)] w fun e w' => e = .returned (.bool v) ∧ Below w.heap.size w w') (hf : Fits l) (hsm : Small l) (hg : g < w.heap.size) (hr : Rd w (some ⟨g, o, none⟩) l) :
    Calls Tryz.prog 6 #[.agg (boV b (.slice (some ⟨g, o, none⟩) l.length c)), .int .i64 n] w fun e w' => AnsIs b l n w e w' := by
  have CK := Lib.hid (fun (W : World) hR => askS n b g o c l v W hv HI hf hR)
  have CO := Lib.hid (fun (W : World) hR => ownBS b g o c l W hsm.1 hR)
  have CO2 := Lib.hid (fun (b' : Bo) (g' o' c' : Nat) (l' : List Pg) (W : World) hs hR => ownBS b' g' o' c' l' W hs hR)
  have HNG : Hid (g < w.heap.size) := Lib.hid hg
  have HSM := Lib.hid hsm
  clear hv HI hf hsm hg
  have N0 := Lib.hid (CB0.new w (boV b (.slice (some ⟨g, o, none⟩) l.length c)))
  have hO := Lib.hid (boV_one b (some ⟨g, o, none⟩) l.length c)
  have HR := Lib.hid (hr.below N0.out.be)
  have hm := mixed
  clear hr
  go_enter Tryz.func6, Tryz.ntmps6
  go_upto_region 1 with fail
  change Code.wp _ _ _ _ ((w.alloc (.cells (boV b (.slice (some ⟨g, o, none⟩) l.length c)) 36)).alloc (.cells (boV bo0 (.slice none 0 0)) 36))
  generalize hW : (w.alloc (.cells (boV b (.slice (some ⟨g, o, none⟩) l.length c)) 36)).alloc (.cells (boV bo0 (.slice none 0 0)) 36) = W at *
  clear hW
  go_wp2_with (refine wpList_load_row rfl 36 (.tmp 2) rfl w.heap.size rfl 36 (boV b (.slice (some ⟨g, o, none⟩) l.length c)) (0, 0) _ N0.out.a Tryz.underlying36 rfl (by rw [boV_size]; exact info30s) ?_)
  refine (CK.out _ HR.out).mono ?_
  rintro e w1 ⟨k, rfl, hk, b1⟩
  have M1 := Lib.hid (N0.out.call b1); have HR1 := Lib.hid (HR.out.below b1)
  have hk2 := hk.out
  clear b1 N0 HR CK hk
  rcases hk2 with ⟨h0, rfl⟩ | ⟨h0, h1, rfl⟩ | ⟨h0, h1, h2, rfl⟩ | ⟨h0, h1, h2, rfl⟩
  · have H0 := Lib.hid h0
    have hOZ := Lib.hid (boV_one bo0 none 0 0)
    clear h0
    go_wp2_with (refine wpList_store_row rfl 36 (.tmp 4) (.tmp 25) rfl (w.heap.size + 1) (boV bo0 (.slice none 0 0)) rfl rfl 36 _ M1.out.r (by rw [boV_size]; exact info30s) rfl hOZ.out ?_)
    refine bodyPost_ret (v := .tuple #[.agg (boV bo0 (.slice none 0 0)), .int .i64 0, .int .i64 1]) (by exact results_cell_row3 Tryz.results6 _ _ (w.heap.size + 1) 36 (boV bo0 (.slice none 0 0)) (0, 0) _ rfl (setRow_heap _ _ _ _ _ _ M1.out.r) Tryz.underlying36 rfl (by rw [boV_size]; exact info30s)) (by rfl) ?_
    exact ⟨bo0, [], 0, 1, none, 0, Lib.hid (.inl ⟨H0.out, rfl, rfl, rfl, rfl⟩), rfl, owns_nilS _ _, Go.below_setRow M1.out.be (by omega) _⟩
  · have H0 := Lib.hid h0; have H1 := Lib.hid h1
    have hOZ := Lib.hid (boV_one bo0 none 0 0)
    clear h0 h1
    go_wp2_with (refine wpList_store_row rfl 36 (.tmp 4) (.tmp 25) rfl (w.heap.size + 1) (boV bo0 (.slice none 0 0)) rfl rfl 36 _ M1.out.r (by rw [boV_size]; exact info30s) rfl hOZ.out ?_)
    refine bodyPost_ret (v := .tuple #[.agg (boV bo0 (.slice none 0 0)), .int .i64 0, .int .i64 4]) (by exact results_cell_row3 Tryz.results6 _ _ (w.heap.size + 1) 36 (boV bo0 (.slice none 0 0)) (0, 0) _ rfl (setRow_heap _ _ _ _ _ _ M1.out.r) Tryz.underlying36 rfl (by rw [boV_size]; exact info30s)) (by rfl) ?_
    exact ⟨bo0, [], 0, 4, none, 0, Lib.hid (.inr (.inl ⟨H0.out, H1.out, rfl, rfl, rfl, rfl⟩)), rfl, owns_nilS _ _, Go.below_setRow M1.out.be (by omega) _⟩
  · have H0 := Lib.hid h0; have H1 := Lib.hid h1; have H2 := Lib.hid h2
    clear h0 h1 h2
    go_wp2_with (refine wpList_load_row rfl 36 (.tmp 2) rfl w.heap.size rfl 36 (boV b (.slice (some ⟨g, o, none⟩) l.length c)) (0, 0) _ M1.out.a Tryz.underlying36 rfl (by rw [boV_size]; exact info30s) ?_)
    refine (CO.out _ HR1.out).mono ?_
    rintro e w2 ⟨g2, c2, rfl, o2, b2⟩
    have M2 := Lib.hid (M1.out.call b2)
    have lr1 := lt_of_blk' M1.out.r
    have hO2 := Lib.hid (boV_one b (some ⟨g2, 0, none⟩) l.length c2)
    have HG : Hid (w.heap.size + 1 < g2 ∧ w.heap.size ≤ w1.heap.size) := Lib.hid (by have := (o2.lt g2 rfl).1; omega)
    have O2 := Lib.hid o2
    clear o2 b2 M1 HR1 CO CO2 lr1
    go_wp2_with (refine wpList_store_row rfl 36 (.tmp 4) (.tmp 30) rfl (w.heap.size + 1) (boV b (.slice (some ⟨g2, 0, none⟩) l.length c2)) rfl rfl 36 _ M2.out.r (by rw [boV_size]; exact info30s) rfl hO2.out ?_)
    refine bodyPost_ret (v := .tuple #[.agg (boV b (.slice (some ⟨g2, 0, none⟩) l.length c2)), .int .i64 0, .int .i64 35]) (by exact results_cell_row3 Tryz.results6 _ _ (w.heap.size + 1) 36 (boV b (.slice (some ⟨g2, 0, none⟩) l.length c2)) (0, 0) _ rfl (setRow_heap _ _ _ _ _ _ M2.out.r) Tryz.underlying36 rfl (by rw [boV_size]; exact info30s)) (by rfl) ?_
    exact ⟨b, l, 0, 35, some ⟨g2, 0, none⟩, c2, Lib.hid (.inr (.inr (.inl ⟨H0.out, H1.out, H2.out, rfl, rfl, rfl, rfl⟩))), rfl, Joins.ownsRow_le (owns_row (g := w.heap.size + 1) O2.out _ (fun j e => by cases e; have := HG.out; omega)) HG.out.2, Go.below_setRow M2.out.be (by omega) _⟩
  have H0 := Lib.hid h0; have H1 := Lib.hid h1; have H2 := Lib.hid h2
  clear h0 h1 h2
  by_cases hn : n = 0
  · subst hn
    go_wp2_with (refine wpList_load_row rfl 36 (.tmp 2) rfl w.heap.size rfl 36 (boV b (.slice (some ⟨g, o, none⟩) l.length c)) (0, 0) _ M1.out.a Tryz.underlying36 rfl (by rw [boV_size]; exact info30s) ?_)
    refine (CO.out _ HR1.out).mono ?_
    rintro e w2 ⟨g2, c2, rfl, o2, b2⟩
    have M2 := Lib.hid (M1.out.call b2)
    have lr1 := lt_of_blk' M1.out.r
    have hO2 := Lib.hid (boV_one b (some ⟨g2, 0, none⟩) l.length c2)
    have HG : Hid (w.heap.size + 1 < g2 ∧ w.heap.size ≤ w1.heap.size) := Lib.hid (by have := (o2.lt g2 rfl).1; omega)
    have O2 := Lib.hid o2
    clear o2 b2 M1 HR1 CO CO2 lr1
    go_wp2_with (refine wpList_store_row rfl 36 (.tmp 4) (.tmp 30) rfl (w.heap.size + 1) (boV b (.slice (some ⟨g2, 0, none⟩) l.length c2)) rfl rfl 36 _ M2.out.r (by rw [boV_size]; exact info30s) rfl hO2.out ?_)
    refine bodyPost_ret (v := .tuple #[.agg (boV b (.slice (some ⟨g2, 0, none⟩) l.length c2)), .int .i64 0, .int .i64 34]) (by exact results_cell_row3 Tryz.results6 _ _ (w.heap.size + 1) 36 (boV b (.slice (some ⟨g2, 0, none⟩) l.length c2)) (0, 0) _ rfl (setRow_heap _ _ _ _ _ _ M2.out.r) Tryz.underlying36 rfl (by rw [boV_size]; exact info30s)) (by rfl) ?_
    exact ⟨b, l, 0, 34, some ⟨g2, 0, none⟩, c2, Lib.hid (.inr (.inr (.inr (.inl ⟨H0.out, rfl, H2.out, rfl, rfl, rfl, rfl⟩)))), rfl, Joins.ownsRow_le (owns_row (g := w.heap.size + 1) O2.out _ (fun j e => by cases e; have := HG.out; omega)) HG.out.2, Go.below_setRow M2.out.be (by omega) _⟩
  have q0 : (n == 0) = false := by simpa using hn
  have HN := Lib.hid hn
  have CA := Lib.hid (ansSall n b g o c l w1 H0.out (by have := HNG.out; have := M1.out.be.size; omega) HR1.out)
  clear hn CO
  go_wp2_with (refine wpList_load_row rfl 36 (.tmp 2) rfl w.heap.size rfl 36 (boV b (.slice (some ⟨g, o, none⟩) l.length c)) (0, 0) _ M1.out.a Tryz.underlying36 rfl (by rw [boV_size]; exact info30s) ?_)
  refine (CA.out).mono ?_
  rintro e w2 ⟨b', l', v2, g', o', c', hv, rfl, hrd, b2, hgg⟩
  have M2 := Lib.hid (M1.out.call b2)
  have HV := Lib.hid hv.out; have R2 := Lib.hid hrd.out
  have hO3 := Lib.hid (boV_one b' (some ⟨g', o', none⟩) l'.length c')
  have lr1 := lt_of_blk' M1.out.r
  have lr2 := lt_of_blk' M2.out.r
  have HLR : Hid (w.heap.size + 1 < w2.heap.size) := Lib.hid lr2
  clear hv hrd b2 hgg CA M1 HR1 lr1 lr2
  go_upto_region 9 with (refine wpList_store_row rfl 36 (.tmp 8) (.tmp 36) rfl w2.heap.size (boV b' (.slice (some ⟨g', o', none⟩) l'.length c')) rfl rfl 36 _ (heap_alloc_new w2 _) (by rw [boV_size]; exact info30s) rfl hO3.out ?_)
  change Code.wp _ _ _ _ ((w2.alloc (.cells (boV bo0 (.slice none 0 0)) 36)).setRow w2.heap.size (boV b' (.slice (some ⟨g', o', none⟩) l'.length c')))
  obtain ⟨U, hU⟩ : ∃ U, U = (w2.alloc (.cells (boV bo0 (.slice none 0 0)) 36)).setRow w2.heap.size (boV b' (.slice (some ⟨g', o', none⟩) l'.length c')) := ⟨_, rfl⟩
  have hb : Below w2.heap.size w2 U := by rw [hU]; exact Go.below_setRow (below1 w2 _) (Nat.le_refl _) _
  have U8 : Hid (U.heap[w2.heap.size]? = some (.cells (boV b' (.slice (some ⟨g', o', none⟩) l'.length c')) 36 (0, 0))) := Lib.hid (by rw [hU]; exact setRow_heap _ _ _ _ _ _ (heap_alloc_new w2 _))
  have M3 := Lib.hid (M2.out.call hb)
  have R3 := Lib.hid (R2.out.below hb)
  have HUS : Hid (w.heap.size + 1 < U.heap.size) := Lib.hid (lt_of_blk' M3.out.r)
  have HLEN := HV.out.len H0.out HSM.out
  have CO3 := Lib.hid (CO2.out b' g' o' c' l' U (by omega) R3.out)
  rw [← hU]
  clear hU hb M2 R2 CO2 HLEN
  go_wp2_with (refine wpList_load_row rfl 36 (.tmp 8) rfl w2.heap.size rfl 36 (boV b' (.slice (some ⟨g', o', none⟩) l'.length c')) (0, 0) _ U8.out Tryz.underlying36 rfl (by rw [boV_size]; exact info30s) ?_)
  refine (CO3.out).mono ?_
  rintro e w3 ⟨g2, c2, rfl, o2, b2⟩
  have M4 := Lib.hid (M3.out.call b2)
  have hO2 := Lib.hid (boV_one b' (some ⟨g2, 0, none⟩) l'.length c2)
  have HG : Hid (w.heap.size + 1 < g2 ∧ w.heap.size ≤ U.heap.size) := Lib.hid (by have := (o2.lt g2 rfl).1; have := HUS.out; omega)
  have O2 := Lib.hid o2
  clear o2 b2 M3 R3 CO3 U8
  go_wp2_with (refine wpList_store_row rfl 36 (.tmp 4) (.tmp 39) rfl (w.heap.size + 1) (boV b' (.slice (some ⟨g2, 0, none⟩) l'.length c2)) rfl rfl 36 _ M4.out.r (by rw [boV_size]; exact info30s) rfl hO2.out ?_)
  refine bodyPost_ret (v := .tuple #[.agg (boV b' (.slice (some ⟨g2, 0, none⟩) l'.length c2)), .int .i64 v2, .int .i64 0]) (by exact results_cell_row3 Tryz.results6 _ _ (w.heap.size + 1) 36 (boV b' (.slice (some ⟨g2, 0, none⟩) l'.length c2)) (0, 0) _ rfl (setRow_heap _ _ _ _ _ _ M4.out.r) Tryz.underlying36 rfl (by rw [boV_size]; exact info30s)) (by rfl) ?_
  exact ⟨b', l', v2, 0, some ⟨g2, 0, none⟩, c2, Lib.hid (.inr (.inr (.inr (.inr ⟨H0.out, ⟨by have := H1.out; have := HN.out; omega, H1.out.2⟩, H2.out, HV.out, rfl⟩)))), rfl, Joins.ownsRow_le (owns_row (g := w.heap.size + 1) O2.out _ (fun j e => by cases e; have := HG.out; omega)) HG.out.2, Go.below_setRow M4.out.be (by omega) _⟩
end Go.Proofs.YtbkgmpkednkbcaaGreatDoor
