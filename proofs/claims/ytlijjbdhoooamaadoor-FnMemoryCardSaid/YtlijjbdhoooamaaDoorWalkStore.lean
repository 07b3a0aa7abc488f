/-
  What impl.StoreAt and spec.StoreAt do: the memory with the bytes of a number laid into its pages, in new memory, and a code, changing nothing that was there; condition: the sentinels hold what the program's text lays there.
-/
import Derived.Test.YtlijjbdhoooamaaDoorWalkPutS
import Derived.Test.YtlijjbdhoooamaaDoorWalkTake
import Derived.Deep.RegionHeld3
namespace Go.Proofs.YtlijjbdhoooamaaDoor
open Go.RowKit Go.Sort
theorem le_size (X n : Nat) : (⟨(leB X n).toArray⟩ : ByteArray).size = n := by show (leB X n).toArray.size = n; simp [leB]
theorem size8s {n : Int} (h : okSize n) : 1 ≤ n ∧ n ≤ 8 := by rcases h with h | h | h | h <;> omega
theorem LayR.weak {perm : Int} {l : List Pg} {a : Int} {t : ByteArray} {l' : List Pg} (h : LayR perm l a t l' 0) : LayR 0 l a t l' 0 := by
  generalize hc : (0 : Int) = c at h
  induction h with
  | done l a t h => rw [← hc]; exact .done l a t h
  | fail l a t l' c h hcc => have := code_pos hcc; omega
  | step l a t k x l' c ht hh hal _ ih =>
    subst hc
    exact .step l a t k x l' _ ht hh (allow0 _) (ih rfl)
theorem byte_weak {l : List Pg} {perm a : Int} {v : UInt8} (h : ByteAt l perm a v) : ByteAt l 0 a v := by
  obtain ⟨k, x, h1, _, h2⟩ := h
  exact ⟨k, x, h1, allow0 _, h2⟩
/-- what both StoreAt answer -/
def StoreOut (l : List Pg) (a n : Int) (X : Nat) (l' : List Pg) (c : Int) : Prop :=
  (¬ MemOk l ∧ l' = [] ∧ c = 1) ∨ (MemOk l ∧ ¬ okSize n ∧ l' = [] ∧ c = 4) ∨ (MemOk l ∧ okSize n ∧ ∃ c', FtOut l a n.toNat 2 c' ∧ ((c' ≠ 0 ∧ l' = l ∧ c = c') ∨ (c' = 0 ∧ LayR 0 l a ⟨(leB X n.toNat).toArray⟩ l' 0 ∧ c = 0)))
theorem StoreOut.one {l : List Pg} {a n : Int} {X : Nat} {l1 l2 : List Pg} {c1 c2 : Int} (h : StoreOut l a n X l1 c1) (h' : StoreOut l a n X l2 c2) : l1 = l2 ∧ c1 = c2 := by
  rcases h with ⟨h1, rfl, rfl⟩ | ⟨h1, h2, rfl, rfl⟩ | ⟨h1, h2, k, hk, h3⟩ <;> rcases h' with ⟨g1, rfl, rfl⟩ | ⟨g1, g2, rfl, rfl⟩ | ⟨g1, g2, k', hk', g3⟩ <;> first | exact ⟨rfl, rfl⟩ | exact absurd h1 g1 | exact absurd g1 h1 | exact absurd h2 g2 | exact absurd g2 h2 | skip
  obtain rfl := FtOut.one h1 hk hk'
  rcases h3 with ⟨e1, rfl, rfl⟩ | ⟨e1, e2, rfl⟩ <;> rcases g3 with ⟨f1, rfl, rfl⟩ | ⟨f1, f2, rfl⟩ <;> first | exact ⟨rfl, rfl⟩ | exact absurd e1 f1 | exact absurd f1 e1 | exact ⟨LayR.one e2 h1 f2, rfl⟩
theorem StoreOut.small {l : List Pg} {a n : Int} {X : Nat} {l' : List Pg} {c : Int} (h : StoreOut l a n X l' c) (hs : Small l) : Small l' := by
  rcases h with ⟨_, rfl, _⟩ | ⟨_, _, rfl, _⟩ | ⟨h1, _, _, _, ⟨_, rfl, _⟩ | ⟨_, h2, _⟩⟩
  · exact ⟨by simp, fun k x hk => by simp at hk⟩
  · exact ⟨by simp, fun k x hk => by simp at hk⟩
  · exact hs
  · have hk := (h2.shape h1).ok h1
    have h3 := hk.1
    refine ⟨by omega, fun k x hx => ?_⟩
    have := (hk.2.1 k x hx).2.2.2.2.2
    omega
set_option maxHeartbeats 1000000 in
theorem l02StoreC (b off cap : Nat) (l : List Pg) (a n v : Int) (X : Nat) (w : World) (hs : l.length ≤ 1048576) (hm : MemOk l) (hr : Rd w (some ⟨b, off, none⟩) l) (hok : okSize n) (hX : IntKind.u64.wrap v = (X : Int)) :
    Calls Tryd.prog 25 #[.agg #[.slice (some ⟨b, off, none⟩) l.length cap], .int .i64 a, .int .i64 n, .int .i64 v] w fun e w' => ∃ g' o' cap' l' c, e = .returned (.tuple #[.agg #[.slice (some ⟨g', o', none⟩) l'.length cap'], .int .i64 c]) ∧ Hid (StoreOut l a n X l' c) ∧ Hid (Rd w' (some ⟨g', o', none⟩) l') ∧ l'.length ≤ 1048576 ∧ Below w.heap.size w w' := by
  obtain ⟨W, hW⟩ : ∃ W, W = (w.alloc (.cells #[.slice (some ⟨b, off, none⟩) l.length cap] 25)).alloc (.cells #[.slice none 0 0] 25) := ⟨_, rfl⟩
  have L0 : Hid (Below w.heap.size w W) := Lib.hid (by rw [hW]; exact head2_below _ _)
  have Z0 : Hid (Cz W (w.heap.size + 1)) := Lib.hid (by rw [hW]; exact head2 _ _)
  have A0 : Hid (Bx W w.heap.size (some ⟨b, off, none⟩) cap l) := Lib.hid (by rw [hW]; exact head2_bx hr)
  have h8 := size8s hok
  obtain ⟨m, rfl⟩ : ∃ m : Nat, n = (m : Int) := ⟨n.toNat, by omega⟩
  have hm8 : m ≤ 8 := by omega
  have HW := Lib.hid hW; have HM := Lib.hid hm; have HOK := Lib.hid hok; have HR := Lib.hid hr; have HX := Lib.hid hX
  clear hr hm hW hok h8 hX
  go_enter Tryd.func25, Tryd.ntmps25
  go_wp2_with fail
  rw [← HW.out]
  refine (faultS _ cap l a 2 m W HM.out A0.out.2.2 (by omega) (.inr (.inl rfl))).mono ?_
  rintro e w1 ⟨f, rfl, HFt, b1⟩
  have L1 := Lib.hid (bthen L0.out b1); have A1 := Lib.hid (A0.out.next b1); have Z1 := Lib.hid (Z0.out.next b1)
  have x1 := A1.out.2.1
  have c1 := cell_of_one Z1.out; have f1 := free_of_one Z1.out
  have r1 (v : Value) := cellSame c1 v
  clear b1 L0 A0 Z0
  by_cases hf : f = 0
  · subst hf
    have hall : ∀ i : Nat, i < (⟨(leB X m).toArray⟩ : ByteArray).size → ∃ v, ByteAt l 0 (a + i) v := by
      rw [le_size]
      intro i hi
      rcases HFt.out with ⟨_, h⟩ | ⟨i, _, _, hc⟩
      · obtain ⟨v, hv⟩ := h i hi
        exact ⟨v, byte_weak hv⟩
      · have := code_pos hc; omega
    have HA := Lib.hid hall
    clear hall r1 c1 f1
    have C := Lib.hid (fun W => specLittle v X m W HX.out hm8)
    go_wp2_with fail
    go_region_held3 (fun w' => w'.cell? ⟨w.heap.size, 0, none⟩ = some (.slice (some ⟨b, off, none⟩) l.length cap)) (first | (with_reducible exact x1) | (with_reducible exact x2) | (with_reducible exact x3) | (with_reducible exact x4 _) | go_keep) (first | (go_at_call 48; (with_reducible refine Calls.mono (C.out _) ?_); rintro e w2 ⟨rfl, b2⟩; have L2 := Lib.hid (bthen (bthen L1.out (below_drew1 w1)) b2); have A2 := Lib.hid ((A1.out.next (below_drew1 w1)).next b2); have Z2 := Lib.hid ((Z1.out.next (below_drew1 w1)).next b2); have x2 := A2.out.2.1; have R2 := Lib.hid A2.out.2.2; clear b2) | (go_at_call 47; (with_reducible refine Calls.mono (l02PutG b off cap l a ⟨(leB X m).toArray⟩ w2 hs HM.out R2.out HA.out) ?_); rintro e w3 ⟨g', cap', l', rfl, HLR, ho, b3⟩; have L3 := Lib.hid (bthen L2.out b3); have Z3 := Z2.out.next b3; have c3 := cell_of_one Z3; have f3 := free_of_one Z3; have r3 (v : Value) := cellSame c3 v; have lz := lt_of_block Z2.out; have x3 := (A2.out.next b3).2.1; have x4 (v : Value) := (cellOther (w := w3) (a := ⟨w.heap.size + 1, 0, none⟩) (b := ⟨w.heap.size, 0, none⟩) (by simp) v).trans x3; have HO := Lib.hid ho; clear b3 Z3 ho))
    go_wp2
    refine bodyPost_ret (v := .tuple #[.agg #[.slice (some ⟨g', 0, none⟩) l'.length cap'], .int .i64 0]) (by simp [results, Tryd.results25, go_sem, r3]) rfl ?_
    refine ⟨_, _, _, _, _, rfl, Lib.hid (.inr (.inr ⟨HM.out, HOK.out, 0, HFt.out, .inr ⟨rfl, HLR.out, rfl⟩⟩)), Lib.hid (Rd.of_own (HO.out.other (b := w.heap.size + 1) (by omega) 0 _)), ?_, L3.out.setCell (by simp) _⟩
    have := (HLR.out.shape HM.out).1
    omega
  · have hf2 : (f != 0) = true := by rw [bne_iff_ne]; exact hf
    have HF := Lib.hid hf
    clear hf
    go_wp2
    refine bodyPost_ret (v := .tuple #[.agg #[.slice (some ⟨b, off, none⟩) l.length cap], .int .i64 f]) (by simp [results, Tryd.results25, go_sem, r1]) rfl ?_
    have hl := L1.out.setCell (p := ⟨w.heap.size + 1, 0, none⟩) (by simp) (.slice (some ⟨b, off, none⟩) l.length cap)
    exact ⟨_, _, _, _, _, rfl, Lib.hid (.inr (.inr ⟨HM.out, HOK.out, f, HFt.out, .inl ⟨HF.out, rfl, rfl⟩⟩)), Lib.hid (HR.out.below hl), hs, hl⟩
set_option maxHeartbeats 1000000 in
theorem storeS (b off cap : Nat) (l : List Pg) (a n v : Int) (X : Nat) (w : World) (hs : Small l) (hr : Rd w (some ⟨b, off, none⟩) l) (hX : IntKind.u64.wrap v = (X : Int)) :
    Calls Tryd.prog 9 #[.agg #[.slice (some ⟨b, off, none⟩) l.length cap], .int .i64 a, .int .i64 n, .int .i64 v] w fun e w' => ∃ l' p' cap' c, e = .returned (.tuple #[.agg #[.slice p' l'.length cap'], .int .i64 c]) ∧ Hid (StoreOut l a n X l' c) ∧ Hid (Owns w' w.heap.size p' cap' l') ∧ Below w.heap.size w w' := by
  obtain ⟨W, hW⟩ : ∃ W, W = (w.alloc (.cells #[.slice (some ⟨b, off, none⟩) l.length cap] 25)).alloc (.cells #[.slice none 0 0] 25) := ⟨_, rfl⟩
  have hWs : W.heap.size = w.heap.size + 1 + 1 := by rw [hW]; simp
  have L0 : Hid (Below w.heap.size w W) := Lib.hid (by rw [hW]; exact head2_below _ _)
  have Z0 : Hid (Cz W (w.heap.size + 1)) := Lib.hid (by rw [hW]; exact head2 _ _)
  have A0 : Hid (Bx W w.heap.size (some ⟨b, off, none⟩) cap l) := Lib.hid (by rw [hW]; exact head2_bx hr)
  have HW := Lib.hid hW; have HWS := Lib.hid hWs; have HS := Lib.hid hs; have HX := Lib.hid hX
  clear hr hs hWs hW hX
  go_enter Tryd.func9, Tryd.ntmps9
  go_wp2_with fail
  rw [← HW.out]
  refine (specOk _ cap l W HS.out.fits A0.out.2.2).mono ?_
  rintro e w1 ⟨rfl, b1⟩
  have L1 := Lib.hid (bthen L0.out b1); have A1 := Lib.hid (A0.out.next b1); have Z1 := Lib.hid (Z0.out.next b1)
  have hw1 : w.heap.size + 1 + 1 ≤ w1.heap.size := by have := b1.size; have := HWS.out; omega
  have x1 := A1.out.2.1
  have c1 := cell_of_one Z1.out; have f1 := free_of_one Z1.out
  clear b1 L0 A0 Z0
  by_cases hm : MemOk l
  · have hy := okB_yes hm
    have HM := Lib.hid hm
    clear hm
    by_cases hok : okSize n
    · have C := Lib.hid (fun W => sizeYes n W hok)
      have HOK := Lib.hid hok
      clear hok c1 f1
      go_wp2_with (go_at_call 24; refine (C.out _).mono ?_; rintro e wz ⟨rfl, rfl⟩)
      refine (l02StoreC b off cap l a n v X _ HS.out.1 HM.out A1.out.2.2 HOK.out HX.out).mono ?_
      rintro e w2 ⟨g', o', cap', l', k, rfl, HO2, R2, hl', b2⟩
      have L2 := Lib.hid (bthen L1.out b2); have Z2 := Lib.hid (Z1.out.next b2)
      have hw2 : w.heap.size + 1 + 1 ≤ w2.heap.size := by have := b2.size; omega
      obtain ⟨V, hV⟩ : ∃ V, V = w2.alloc (.cells #[.slice (some ⟨g', o', none⟩) l'.length cap'] 25) := ⟨_, rfl⟩
      have hVs : V.heap.size = w2.heap.size + 1 := by rw [hV]; simp
      have L3 : Hid (Below w.heap.size w V) := Lib.hid (by rw [hV]; exact bbox L2.out _)
      have Z3 : Hid (Cz V (w.heap.size + 1)) := Lib.hid (by rw [hV]; exact Z2.out.next (below1 _ _))
      have R3 : Hid (Rd V (some ⟨g', o', none⟩) l') := Lib.hid (by rw [hV]; exact R2.out.below (below1 _ _))
      have HV := Lib.hid hV; have HVS := Lib.hid hVs
      clear b2 x1 L1 A1 Z1 C hV hVs
      go_wp2_with fail
      rw [← HV.out]
      refine (l02OwnC g' o' cap' l' V hl' R3.out).mono ?_
      rintro e w3 ⟨g'', cap'', rfl, ho, b3⟩
      have L4 := Lib.hid (bthen L3.out b3)
      have Z4 := Z3.out.next b3
      have c4 := cell_of_one Z4; have f4 := free_of_one Z4
      have r4 (v : Value) := cellSame c4 v
      have HO := Lib.hid ho
      have hv := HVS.out
      clear b3 Z4 ho
      go_wp2
      refine bodyPost_ret (v := .tuple #[.agg #[.slice (some ⟨g'', 0, none⟩) l'.length cap''], .int .i64 k]) (by simp [results, Tryd.results9, go_sem, r4]) rfl ?_
      exact ⟨_, _, _, _, rfl, HO2, Lib.hid (Joins.ownsRow_le (HO.out.other (b := w.heap.size + 1) (by omega) 0 _) (by omega)), L4.out.setCell (by simp) _⟩
    · have C := Lib.hid (fun W => sizeNo n W hok)
      have HOK := Lib.hid hok
      have r1 (v : Value) := cellSame c1 v
      clear hok
      go_wp2_with (go_at_call 24; refine (C.out _).mono ?_; rintro e wz ⟨rfl, rfl⟩)
      refine bodyPost_ret (v := .tuple #[.agg #[.slice none 0 0], .int .i64 4]) (by simp [results, Tryd.results9, go_sem, r1]) rfl ?_
      exact ⟨[], _, _, _, rfl, Lib.hid (.inr (.inl ⟨HM.out, HOK.out, rfl, rfl⟩)), Lib.hid (owns_nil _ _), L1.out.setCell (by simp) _⟩
  · have hn := okB_no hm
    have HM := Lib.hid hm
    have r1 (v : Value) := cellSame c1 v
    clear hm
    go_wp2
    refine bodyPost_ret (v := .tuple #[.agg #[.slice none 0 0], .int .i64 1]) (by simp [results, Tryd.results9, go_sem, r1]) rfl ?_
    exact ⟨[], _, _, _, rfl, Lib.hid (.inl ⟨HM.out, rfl, rfl⟩), Lib.hid (owns_nil _ _), L1.out.setCell (by simp) _⟩
set_option maxHeartbeats 1000000 in
theorem storeI (p : Option Addr) (cap : Nat) (l : List Pg) (a n v : Int) (X : Nat) (w : World) (aE aR : Addr) (hsn : Sent w aE aR) (hX : IntKind.u64.wrap v = (X : Int)) (hp : Ad p) (hs : Small l) (hr : Rd w p l) (h1 : -9223372036854775808 ≤ a) (h2 : a ≤ 9223372036854775807) :
    Calls Tryd.prog 8 #[.agg #[.slice p l.length cap], .int .i64 a, .int .i64 n, .int .i64 v] w fun e w' => ∃ l' p' cap' c, e = .returned (.tuple #[.agg #[.slice p' l'.length cap'], .int .i64 c]) ∧ Hid (StoreOut l a n X l' c) ∧ Hid (Owns w' w.heap.size p' cap' l') ∧ Below w.heap.size w w' := by
  obtain ⟨W, hW⟩ : ∃ W, W = (w.alloc (.cells #[.slice p l.length cap] 25)).alloc (.cells #[.slice none 0 0] 25) := ⟨_, rfl⟩
  have hWs : W.heap.size = w.heap.size + 1 + 1 := by rw [hW]; simp
  have L0 : Hid (Below w.heap.size w W) := Lib.hid (by rw [hW]; exact head2_below _ _)
  have Z0 : Hid (Cz W (w.heap.size + 1)) := Lib.hid (by rw [hW]; exact head2 _ _)
  have A0 : Hid (Bx W w.heap.size p cap l) := Lib.hid (by rw [hW]; exact head2_bx hr)
  have HW := Lib.hid hW; have HWS := Lib.hid hWs; have HS := Lib.hid hs; have HAD := Lib.hid hp
  have HR := Lib.hid hr; have HSN := Lib.hid hsn; have HX := Lib.hid hX
  clear hr hs hWs hp hW hsn hX
  go_enter Tryd.func8, Tryd.ntmps8
  go_wp2_with fail
  rw [← HW.out]
  refine (openAll p cap l W HAD.out HS.out A0.out.2.2).mono ?_
  rintro e w1 ⟨ho, b1⟩
  have L1 := Lib.hid (bthen L0.out b1); have A1 := Lib.hid (A0.out.next b1); have Z1 := Lib.hid (Z0.out.next b1)
  have hw1 : w.heap.size + 1 + 1 ≤ w1.heap.size := by have := b1.size; have := HWS.out; omega
  have hW1 : W.heap.size ≤ w1.heap.size := b1.size
  clear b1 L0 A0 Z0
  have c1 := cell_of_one Z1.out; have f1 := free_of_one Z1.out
  have lz := lt_of_block Z1.out
  rcases ho with ⟨hn, q, nn, c, rfl⟩ | ⟨hy, q, c, g, rfl, htab⟩
  · have HM := Lib.hid hn
    have r1 (v : Value) (o : Obj) : ((w1.setCell ⟨w.heap.size + 1, 0, none⟩ v).alloc o).cell? ⟨w.heap.size + 1, 0, none⟩ = some v := by
      rw [World.cell?_alloc_lt _ _ _ (by simp only [World.size_setCell]; exact lz)]; exact cellSame c1 _
    clear hn
    go_wp2
    refine bodyPost_ret (v := .tuple #[.agg #[.slice none 0 0], .int .i64 1]) (by simp [results, Tryd.results8, go_sem, r1]) rfl ?_
    exact ⟨[], _, _, _, rfl, Lib.hid (.inl ⟨HM.out, rfl, rfl⟩), Lib.hid (owns_nil _ _), Below.alloc (L1.out.setCell (by simp) _) (by have := L1.out.size; simp; omega) _⟩
  · obtain ⟨V, hV⟩ : ∃ V, V = w1.alloc (.cells #[.slice q l.length c] 50) := ⟨_, rfl⟩
    have hVs : V.heap.size = w1.heap.size + 1 := by rw [hV]; simp
    have L2 : Hid (Below w.heap.size w V) := Lib.hid (by rw [hV]; exact bbox L1.out _)
    have A2 : Hid (Bx V w.heap.size p cap l) := Lib.hid (by rw [hV]; exact A1.out.next (below1 _ _))
    have Z2 : Hid (Cz V (w.heap.size + 1)) := Lib.hid (by rw [hV]; exact Z1.out.next (below1 _ _))
    have T2 : Hid (TabOwn V W.heap.size q c g l) := Lib.hid (by rw [hV]; exact htab.below (below1 _ _))
    have HB : Hid (V.heap[w1.heap.size]? = some (.cells #[.slice q l.length c] 50 (0, 0))) := Lib.hid (by rw [hV]; exact heap_alloc_new w1 _)
    have x1 := A1.out.2.1
    have hw0 : w.heap.size < w1.heap.size := A1.out.1
    have HV := Lib.hid hV; have HM := Lib.hid hy; have HVS := Lib.hid hVs
    clear hV hy htab A1 Z1 c1 f1 hVs
    by_cases hok : okSize n
    · have h8 := size8s hok
      obtain ⟨m, rfl⟩ : ∃ m : Nat, n = (m : Int) := ⟨n.toNat, by omega⟩
      have hm8 : m ≤ 8 := by omega
      have HOK := Lib.hid hok
      clear hok h8
      go_wp2_with fail
      rw [← HV.out]
      refine (implPutYes v X m V HX.out HOK.out).mono ?_
      rintro e wq ⟨rfl, bq⟩
      have Lq := Lib.hid (bthen L2.out bq); have Zq := Lib.hid (Z2.out.next bq); have Aq := Lib.hid (A2.out.next bq); have Tq := Lib.hid (T2.out.below bq)
      have HBq : Hid (wq.heap[w1.heap.size]? = some (.cells #[.slice q l.length c] 50 (0, 0))) := Lib.hid ((bq.block _ (lt_of_block HB.out)).trans HB.out)
      have hVq := bq.size
      clear bq x1
      go_wp2_with fail
      refine (layC w1.heap.size W.heap.size c g q l a 2 ⟨(leB X m).toArray⟩ wq HM.out HBq.out Tq.out (by have := HVS.out; omega) h1 h2 (by rw [le_size]; omega)).mono ?_
      rintro e w2 ⟨c', lc, rfl, HLR, HT, b2⟩
      have L3 : Hid (Below w.heap.size w w2) := Lib.hid (Lq.out.trans (b2.mono (by have := HWS.out; omega)))
      have Z3 : Hid (Cz w2 (w.heap.size + 1)) := Lib.hid ((b2.block _ (by have := HWS.out; omega)).trans Zq.out)
      have x3 : w2.cell? ⟨w.heap.size, 0, none⟩ = some (.slice p l.length cap) := (World.cell?_of_block (a := ⟨w.heap.size, 0, none⟩) (b2.block w.heap.size (by have := HWS.out; omega))).trans Aq.out.2.1
      have R3 : Hid (Rd w2 p l) := Lib.hid (HR.out.below L3.out)
      have hw2 : w.heap.size + 1 + 1 ≤ w2.heap.size := by have := b2.size; have := HVS.out; omega
      clear b2
      by_cases hc : c' = 0
      · subst hc
        have hlen : l.length = lc.length := HT.out.1.1
        have C5 := Lib.hid (memC w1.heap.size c q lc w2 (by have := HM.out.1; omega) (by rw [← hlen]; exact cell_of_one HT.out.2.2) (lt_of_block HT.out.2.2) HT.out.2.1.tab.ptrs)
        have HLEN := Lib.hid hlen
        clear hlen
        go_wp2_with fail
        refine (C5.out).mono ?_
        rintro e w3 ⟨p', cap', rfl, ho, b3⟩
        have L5 := Lib.hid (bthen L3.out b3)
        have Z5 := Z3.out.next b3
        have c5 := cell_of_one Z5; have f5 := free_of_one Z5
        have r5 (v : Value) := cellSame c5 v
        have HO := Lib.hid ho
        clear b3 x3 Z5 ho
        go_wp2
        refine bodyPost_ret (v := .tuple #[.agg #[.slice p' lc.length cap'], .int .i64 0]) (by simp [results, Tryd.results8, go_sem, r5]) rfl ?_
        exact ⟨_, _, _, _, rfl, Lib.hid (.inr (.inr ⟨HM.out, HOK.out, 0, by have h := (HLR.out lc fun _ => rfl).ft HM.out; rw [le_size] at h; exact h, .inr ⟨rfl, (HLR.out lc fun _ => rfl).weak, rfl⟩⟩)), Lib.hid (Joins.ownsRow_le (HO.out.other (b := w.heap.size + 1) (by omega) 0 _) (by omega)), L5.out.setCell (by simp) _⟩
      · have hc2 : (c' != 0) = true := by rw [bne_iff_ne]; exact hc
        have HC := Lib.hid hc
        clear hc
        go_wp2_with fail
        refine (asItWasC p cap l w2 HAD.out HS.out R3.out).mono ?_
        rintro e w3 ⟨p', cap', rfl, ho, b3⟩
        have L4 := Lib.hid (bthen L3.out b3)
        have Z4 := Z3.out.next b3
        have c4 := cell_of_one Z4; have f4 := free_of_one Z4
        have r4 (v : Value) := cellSame c4 v
        have HO := Lib.hid ho
        clear b3 x3 Z4 ho
        go_wp2
        refine bodyPost_ret (v := .tuple #[.agg #[.slice p' l.length cap'], .int .i64 c']) (by simp [results, Tryd.results8, go_sem, r4]) rfl ?_
        exact ⟨_, _, _, _, rfl, Lib.hid (.inr (.inr ⟨HM.out, HOK.out, c', by have h := (HLR.out [] fun h => absurd h HC.out).ft HM.out; rw [le_size] at h; exact h, .inl ⟨HC.out, rfl, rfl⟩⟩)), Lib.hid (Joins.ownsRow_le (HO.out.other (b := w.heap.size + 1) (by omega) 0 _) (by omega)), L4.out.setCell (by simp) _⟩
    · have HOK := Lib.hid hok
      clear hok
      go_wp2_with fail
      rw [← HV.out]
      refine (implPutNo v n V aE aR (HSN.out.below L2.out) HOK.out).mono ?_
      rintro e wq ⟨rfl, bq⟩
      have Lq := Lib.hid (bthen L2.out bq)
      have Zq := Z2.out.next bq
      have c4 := cell_of_one Zq; have f4 := free_of_one Zq
      have r4 (v : Value) := cellSame c4 v
      clear bq x1 Zq
      go_wp2
      refine bodyPost_ret (v := .tuple #[.agg #[.slice none 0 0], .int .i64 4]) (by simp [results, Tryd.results8, go_sem, r4]) rfl ?_
      exact ⟨[], _, _, _, rfl, Lib.hid (.inr (.inl ⟨HM.out, HOK.out, rfl, rfl⟩)), Lib.hid (owns_nil _ _), Lq.out.setCell (by simp) _⟩
end Go.Proofs.YtlijjbdhoooamaaDoor
