/-
  What slices.Insert does for one pointer to a page put into a list of pointers of the call's own: the list with it, in memory of the call's own; conditions: those in each head.
-/
import Derived.Test.YtbkgmpkednkbcaaGreatDoorMathIns
import Derived.Test.YtbkgmpkednkbcaaGreatDoorWalkOpen2
import Derived.Shelf.Spec.SlicesInsertGrow
namespace Go.Proofs.YtbkgmpkednkbcaaGreatDoor
open Go.RowKit Go.Sort Go.Shelf Go.Lib
/-- the list xs with p ahead of place i -/
def insPV (xs : List Value) (i : Nat) (p : Value) : List Value := xs.take i ++ p :: xs.drop i
theorem ownBlk_eq (q : Option Addr) (n c c' : Nat) : (Value.slice q n c).ownBlock = (Value.slice q n c').ownBlock := by cases q <;> rfl
theorem insPV_len {xs : List Value} {i : Nat} {p : Value} (h : i ≤ xs.length) : (insPV xs i p).length = xs.length + 1 := by simp [insPV]; omega
theorem insPV_at {xs : List Value} {i : Nat} {p : Value} (h : i ≤ xs.length) (j : Nat) : (insPV xs i p)[j]? = if j < i then xs[j]? else if j = i then some p else xs[j - 1]? := by
  unfold insPV
  have hl : (xs.take i).length = i := by rw [List.length_take]; omega
  by_cases h1 : j < i
  · rw [if_pos h1, List.getElem?_append_left (by omega), List.getElem?_take, if_pos h1]
  · rw [if_neg h1, List.getElem?_append_right (by omega), hl]
    by_cases h2 : j = i
    · subst h2; rw [if_pos rfl, Nat.sub_self]; rfl
    · rw [if_neg h2, show j - i = (j - 1 - i) + 1 by omega, List.getElem?_cons_succ, List.getElem?_drop]
      congr 1; omega
theorem setCells_blk (g : Nat) (t : TypeId) (fr : Nat × Nat) : ∀ (vs : List Value) (o : Nat) (w : World) (cur : Array Value), w.heap[g]? = some (.cells cur t fr) → ∃ cur', (w.setCells g o vs).heap[g]? = some (.cells cur' t fr) ∧ cur'.size = cur.size
  | [], o, w, cur, h => ⟨cur, h, rfl⟩
  | v :: r, o, w, cur, h => by
    obtain ⟨cur', h1, h2⟩ := setCells_blk g t fr r (o + 1) (w.setCell ⟨g, o, none⟩ v) (cur.setIfInBounds o v) (by simp [World.setCell, Array.getElem?_modify, h])
    exact ⟨cur', h1, by rw [h2]; simp⟩
theorem own_of_cells {W : World} {B N G m : Nat} {T : TypeId} {cur : Array Value} {ys : List Value} (hb : W.heap[N]? = some (.cells cur T (0, 0))) (hs : cur.size = G) (hB : B ≤ N) (hG : G ≤ maxLen) (hm : m ≤ G) (hl : ys.length = m) (hc : ∀ j, j < m → W.cell? ⟨N, j, none⟩ = ys[j]?) :
    W.ownsRow B T 1 (.slice (some ⟨N, 0, none⟩) m G) m ys := by
  refine ⟨by omega, .inr ⟨N, G, cur, rfl, hB, hb, hm, hG, by omega, ?_⟩⟩
  apply List.ext_getElem?
  intro j
  rw [List.getElem?_take, Nat.mul_one]
  by_cases hj : j < m
  · rw [if_pos hj, ← hc j hj, cell_of_row W N j cur T (0, 0) hb, Array.getElem?_toList]
  · rw [if_neg hj, List.getElem?_eq_none (by omega)]
theorem below_setCells {w W : World} {B g : Nat} (h : Below B w W) (hg : B ≤ g) : ∀ (vs : List Value) (o : Nat), Below B w (W.setCells g o vs)
  | [], _ => h
  | v :: r, o => below_setCells (h.setCell hg v) hg r (o + 1)
theorem box_at (w : World) (ROW : Array Value) (k : Nat) {T : TypeId} : ((w.alloc (.cells ROW T)).drew).cell? ⟨w.heap.size, k, none⟩ = ROW[k]? := cell_of_row _ _ k ROW T (0, 0) (heap_alloc_new w _)
theorem ins_cells {V : World} {N n i : Nat} {xs : List Value} {p : Value} (hxl : xs.length = n) (hi : i ≤ n) (hV : ∀ j, j < i → V.cell? ⟨N, j, none⟩ = xs[j]?) (hS : ∀ j, j < n + 1 → (V.cell? ⟨N, j, none⟩).isSome = true) (j : Nat) (hj : j < n + 1) :
    (((V.setCells N i [p]).drew).setCells N (i + 1) (xs.drop i)).cell? ⟨N, j, none⟩ = (insPV xs i p)[j]? := by
  have hd : (xs.drop i).length = n - i := by rw [List.length_drop, hxl]
  rw [insPV_at (by omega)]
  by_cases h1 : j < i
  · rw [if_pos h1, World.cell?_setCells_out _ _ _ _ _ (fun _ _ => .inl (by show j < i + 1; omega))]
    show ((V.setCells N i [p]).cell? ⟨N, j, none⟩) = _
    rw [World.cell?_setCells_out _ _ _ _ _ (fun _ _ => .inl h1)]
    exact hV j h1
  · rw [if_neg h1]
    by_cases h2 : j = i
    · subst h2
      rw [if_pos rfl, World.cell?_setCells_out _ _ _ _ _ (fun _ _ => .inl (by show j < j + 1; omega))]
      show ((V.setCells N j [p]).cell? ⟨N, j, none⟩) = _
      exact World.cell?_setCells_in N [p] j V (fun k hk => hS _ (by simp at hk; omega)) 0 (by simp)
    · rw [if_neg h2]
      have h3 := World.cell?_setCells_in N (xs.drop i) (i + 1) ((V.setCells N i [p]).drew) (fun k hk => isSome_setCells _ _ _ _ (fun t ht => hS _ (by simp at ht; omega)) _ (hS _ (by omega))) (j - (i + 1)) (by omega)
      rw [show i + 1 + (j - (i + 1)) = j by omega] at h3
      rw [h3, List.getElem_drop, List.getElem?_eq_getElem (by omega)]
      congr 2; omega
theorem ins_cells2 {V : World} {N n i : Nat} {xs : List Value} {p : Value} (hxl : xs.length = n) (hi : i ≤ n) (hV : ∀ j, j < i → V.cell? ⟨N, j, none⟩ = xs[j]?) (hS : ∀ j, j < n + 1 → (V.cell? ⟨N, j, none⟩).isSome = true) (j : Nat) (hj : j < n + 1) :
    ((V.setCells N (i + 1) (xs.drop i)).setCells N i [p]).cell? ⟨N, j, none⟩ = (insPV xs i p)[j]? := by
  have hd : (xs.drop i).length = n - i := by rw [List.length_drop, hxl]
  rw [insPV_at (by omega)]
  by_cases h1 : j < i
  · rw [if_pos h1, World.cell?_setCells_out _ _ _ _ _ (fun _ _ => .inl h1), World.cell?_setCells_out _ _ _ _ _ (fun _ _ => .inl (by show j < i + 1; omega))]
    exact hV j h1
  · rw [if_neg h1]
    by_cases h2 : j = i
    · subst h2
      rw [if_pos rfl]
      exact World.cell?_setCells_in N [p] j _ (fun k hk => isSome_setCells _ _ _ _ (fun t ht => hS _ (by omega)) _ (hS _ (by simp at hk; omega))) 0 (by simp)
    · rw [if_neg h2, World.cell?_setCells_out _ _ _ _ _ (fun _ _ => .inr (by show i + 1 ≤ j; omega))]
      have h3 := World.cell?_setCells_in N (xs.drop i) (i + 1) V (fun k hk => hS _ (by omega)) (j - (i + 1)) (by omega)
      rw [show i + 1 + (j - (i + 1)) = j by omega] at h3
      rw [h3, List.getElem_drop, List.getElem?_eq_getElem (by omega)]
      congr 2; omega
theorem grownB {W W' : World} (h : Below W.heap.size W W') (row : Option Nat) : W.grownBy W' row := ⟨h.os, h.tape, h.output, h.size, fun k hk _ => h.block k hk⟩
theorem drewB (W : World) : Below W.heap.size W W.drew := ⟨rfl, rfl, rfl, Nat.le_refl _, fun _ _ => rfl⟩
theorem grown_setCells {w W : World} {g : Nat} (h : w.grownBy W (some g)) : ∀ (vs : List Value) (o : Nat), w.grownBy (W.setCells g o vs) (some g)
  | [], _ => h
  | v :: r, o => grown_setCells (W := W.setCell ⟨g, o, none⟩ v) ⟨h.os, h.tape, h.output, by simpa [World.setCell] using h.size, fun k hk hne => by
      have hne' : k ≠ g := fun e => hne (by rw [e])
      rw [Below.heap_setCell _ _ _ _ (by simpa using hne')]; exact h.block k hk hne⟩ r (o + 1)
set_option maxHeartbeats 4000000 in
set_option maxRecDepth 100000 in
theorem insEnd (n cap B vb : Nat) (q : Option Addr) (xs : List Value) (p : Value) (w : World) (ho : w.ownsRow B 121 1 (.slice q n cap) n xs) (hB : B ≤ w.heap.size) (hn : n ≤ 1000) (hv : w.cell? ⟨vb, 0, none⟩ = some p) (hp : p.oneCell' = true) :
    Calls Tryz.prog 134 #[.slice q n cap, .int .i64 (n : Int), .slice (some ⟨vb, 0, none⟩) 1 1] w fun e w' => ∃ g' cap', e = .returned (.slice (some ⟨g', 0, none⟩) (n + 1) cap') ∧ w'.ownsRow B 121 1 (.slice (some ⟨g', 0, none⟩) (n + 1) cap') (n + 1) (xs ++ [p]) ∧ w.grownBy w' (Value.slice q n cap).ownBlock := by
  obtain ⟨i0, hi, hz0, hz1, hz2⟩ := info_parts infoQ
  have hnc : n ≤ cap ∧ cap ≤ maxLen := by
    rcases ho.2 with ⟨e, h⟩ | ⟨g, c, cur, e, _, _, h1, h2, _⟩
    · cases e; exact ⟨Nat.le_refl _, by unfold maxLen; omega⟩
    · cases e; exact ⟨h1, h2⟩
  have hc1 : n ≤ cap := hnc.1
  have hc2 : cap ≤ 9223372036854775807 := by have := hnc.2; unfold maxLen at this; omega
  have hm1 : n + 1 ≤ maxLen := by unfold maxLen; omega
  have hb1 : (n + 1) * 8 ≤ 140737488355328 := by omega
  have hnews : ∀ j u, [p][j]? = some u → w.cell? ((⟨vb, 0, none⟩ : Addr).add j) = some u := by
    intro j u hj
    have : j = 0 := by have := (List.getElem?_eq_some_iff.1 hj).1; simp at this; omega
    subst this
    simp at hj; subst hj
    exact hv
  have h1 : ∀ u ∈ [p], u.oneCell' = true := by intro u hu; simp at hu; subst hu; exact hp
  have HO := Lib.hid ho; have HN := Lib.hid hnews; have HP := Lib.hid h1
  clear ho hnews h1 hnc hv hp
  go_enter Tryz.func134, Tryz.ntmps134
  go_wp2_with (at_builtin; refine wpList_append_lies _ rfl _ _ _ rfl B 121 i0 (.pointer none) 1 8 Tryz.underlying97 hi hz0 hz1 hz2 rfl (by omega) (.slice q n cap) n xs rfl HO.out ⟨vb, 0, none⟩ 1 1 [p] rfl rfl HN.out HP.out (by omega) hm1 hb1 hB w.heap.size rfl ?_; intro g2 cap2 w2 hown2 hgrow hat hlt1; have HO2 := Lib.hid hown2; have HG2 := Lib.hid hgrow; clear hown2 hgrow hat hlt1)
  all_goals
    go_ret
    refine ⟨_, _, rfl, HO2.out, ?_⟩
    first | exact HG2.out | (rw [ownBlk_eq q n n cap]; exact HG2.out)
set_option maxHeartbeats 4000000 in
set_option maxRecDepth 100000 in
theorem insGrow (g n i B vb : Nat) (xs : List Value) (p : Value) (w : World) (ho : w.ownsRow B 121 1 (.slice (some ⟨g, 0, none⟩) n n) n xs) (hB : B ≤ w.heap.size) (hi : i < n) (hn : n ≤ 1000) (hv : w.cell? ⟨vb, 0, none⟩ = some p) (hvb : vb < w.heap.size) (hp : p.oneCell' = true) (h1c : ∀ v ∈ xs, v.oneCell' = true) :
    Calls Tryz.prog 134 #[.slice (some ⟨g, 0, none⟩) n n, .int .i64 (i : Int), .slice (some ⟨vb, 0, none⟩) 1 1] w fun e w' => ∃ g' cap', e = .returned (.slice (some ⟨g', 0, none⟩) (n + 1) cap') ∧ w'.ownsRow B 121 1 (.slice (some ⟨g', 0, none⟩) (n + 1) cap') (n + 1) (insPV xs i p) ∧ Below w.heap.size w w' := by
  obtain ⟨i0, hi0, hz0, hzs, hzb⟩ := info_parts infoQ
  have mixed := mixed
  have hxl : xs.length = n := by have := ho.1; omega
  have hz1 : ¬ (((1 : Nat) : Int) = 0) := by omega
  have hz2 : ¬ ((i : Int) = (n : Int)) := by omega
  have hz3 : (n : Int) < (n : Int) + 1 := by omega
  have hsz : (Tryz.prog.info? 121).map (·.size) = some 1 := by rw [hi0]; simp [hzs]
  have hcs : ∀ j v, xs[j]? = some v → w.cell? ⟨g, j, none⟩ = some v := fun j v hj => by
    have hjl := (List.getElem?_eq_some_iff.1 hj).1
    rw [ho.cellAt j (by omega)]; exact hj
  have hgw := (ho.lt g rfl).2
  have hvs : ∀ j v, [p][j]? = some v → w.cell? ⟨vb, j, none⟩ = some v := by
    intro j u hj
    have : j = 0 := by have := (List.getElem?_eq_some_iff.1 hj).1; simp at this; omega
    subst this
    simp at hj; subst hj
    exact hv
  have h1v : ∀ u ∈ [p], u.oneCell' = true := by intro u hu; simp at hu; subst hu; exact hp
  have hold : (Builtin.firstCells i0.size i (.slice (some ⟨g, 0, none⟩) i n)).run Tryz.prog w.drew = .ok (xs.take i).toArray w.drew := by
    rw [hzs]
    exact run_firstCells_some w.drew 1 i ⟨g, 0, none⟩ i n (xs.take i) (by rw [List.length_take]; omega) (fun j v hj => by
      rw [Addr.add_lit, Nat.zero_add]
      rw [List.getElem?_take] at hj
      split at hj
      · exact hcs j v hj
      · cases hj)
  have hik : i + (n + 1 - i) = n + 1 := by omega
  have hkk : (n : Int) + 1 - (i : Int) = ((n + 1 - i : Nat) : Int) := by omega
  have hrz : ∀ ty, (Builtin.append_ #[97, 3] ty #[.slice (some ⟨g, 0, none⟩) i n, .int .i64 ((n : Int) + 1 - (i : Int))]).run Tryz.prog w =
      .ok (.slice (some ⟨w.heap.size, 0, none⟩) (n + 1) (grownCap w (n + 1) n 121)) (w.drew.alloc (.cells ((xs.take i).toArray ++ Builtin.zeroCells (Value.pointer none).cells (n + 1 - i) ++ Builtin.zeroCells (Value.pointer none).cells (grownCap w (n + 1) n 121 - (n + 1))) 121)) := fun ty => by
    have h := Lib.run_append_grow_zeros w 97 3 ty 121 i0 _ .i64 .i64 Tryz.underlying97 Tryz.underlying3 hi0 hz0 (some ⟨g, 0, none⟩) i n (xs.take i) hold (n + 1 - i) (by omega) (by omega) (by omega) (by omega) (by rw [hzb]; omega) (by rw [hzb, hik]; exact growslice_fits (by omega) (by omega))
    rw [hik] at h
    rw [hkk]
    exact h
  obtain ⟨G, hG⟩ : ∃ G, G = grownCap w (n + 1) n 121 := ⟨_, rfl⟩
  obtain ⟨ROW, hROW⟩ : ∃ ROW : Array Value, ROW = (xs.take i).toArray ++ Builtin.zeroCells (Value.pointer none).cells (n + 1 - i) ++ Builtin.zeroCells (Value.pointer none).cells (G - (n + 1)) := ⟨_, rfl⟩
  rw [← hG] at hrz
  rw [← hROW] at hrz
  have hGn : n + 1 ≤ G := by rw [hG]; exact grownCap_ge w _ _ _
  have hGm : G ≤ maxLen := by rw [hG]; exact grownCap_le_maxLen w (n + 1) n 121 (by unfold maxLen; omega)
  have hG63 : G ≤ 9223372036854775807 := by have := hGm; unfold maxLen at this; omega
  have hRs : ROW.size = G := by
    rw [hROW]
    simp [Builtin.zeroCells, Value.cells]
    omega
  have hRi : ∀ j, j < i → ROW[j]? = xs[j]? := fun j hj => by
    rw [hROW, Array.getElem?_append_left (by simp; omega), Array.getElem?_append_left (by simp; omega), List.getElem?_toArray, List.getElem?_take, if_pos hj]
  obtain ⟨W1, hW1⟩ : ∃ W1, W1 = w.drew.alloc (.cells ROW 121) := ⟨_, rfl⟩
  rw [← hW1] at hrz
  have hN : ∀ j, j < n + 1 → (W1.cell? ⟨w.heap.size, j, none⟩).isSome = true := fun j hj => by
    rw [hW1, World.cell?_alloc_at (w := w.drew) ROW _ w.heap.size j rfl, Array.getElem?_eq_getElem (by omega)]; rfl
  have hNf : ∀ j, W1.frozen? ⟨w.heap.size, j, none⟩ = false := fun j => by rw [hW1]; exact World.frozen?_alloc_at (w := w.drew) ROW _ w.heap.size j rfl
  have hOb : ∀ j v, w.cell? ⟨g, j, none⟩ = some v → W1.cell? ⟨g, j, none⟩ = some v := fun j v h => by rw [hW1, World.cell?_alloc_past (w := w.drew) _ g j hgw]; exact h
  have hOv : ∀ j v, w.cell? ⟨vb, j, none⟩ = some v → W1.cell? ⟨vb, j, none⟩ = some v := fun j v h => by rw [hW1, World.cell?_alloc_past (w := w.drew) _ vb j hvb]; exact h
  have hcpA : ∀ (W : World), (∀ x, W.cell? x = W1.cell? x) → (∀ x, W.frozen? x = W1.frozen? x) → ∀ ty dc, (Builtin.copy_ #[97, 97] ty #[.slice (some ⟨w.heap.size, i, none⟩) (n + 1 - i) dc, .slice (some ⟨vb, 0, none⟩) 1 1]).run Tryz.prog W = .ok (goInt [p].length) (W.setCells w.heap.size i [p]) := fun W hWc hWf ty dc =>
    run_copy_cells W _ _ ty 121 w.heap.size i (n + 1 - i) dc ⟨vb, 0, none⟩ 1 1 [p] Tryz.underlying97 hsz (by simp only [List.length_cons, List.length_nil, Nat.min_def]; split <;> omega)
      (fun j v hj => by rw [Addr.add_lit, hWc, Nat.zero_add]; exact hOv _ v (hvs j v hj))
      (fun j hj => by rw [hWc]; exact hN _ (by simp at hj; omega)) (fun j hj => by rw [hWf]; exact hNf _) h1v
  have hGi : ¬ (G = i) := by omega
  have hGim : ¬ (G = i + 1) := by omega
  have hci : ¬ (n = i) := by omega
  have hbN : g ≠ w.heap.size := by omega
  have hdl : (xs.drop i).length = n - i := by rw [List.length_drop, hxl]
  have hcpB : ∀ (W : World), (∀ x, W.cell? x = (W1.setCells w.heap.size i [p]).cell? x) → (∀ x, W.frozen? x = (W1.setCells w.heap.size i [p]).frozen? x) → ∀ ty dc sc, (Builtin.copy_ #[97, 97] ty #[.slice (some ⟨w.heap.size, i + 1, none⟩) (n + 1 - (i + 1)) dc, .slice (some ⟨g, i, none⟩) (n - i) sc]).run Tryz.prog W = .ok (goInt (xs.drop i).length) (W.setCells w.heap.size (i + 1) (xs.drop i)) := fun W hWc hWf ty dc sc =>
    run_copy_cells W _ _ ty 121 w.heap.size (i + 1) (n + 1 - (i + 1)) dc ⟨g, i, none⟩ (n - i) sc (xs.drop i) Tryz.underlying97 hsz (by rw [hdl]; simp only [Nat.min_def]; split <;> omega)
      (fun j v hj => by
        rw [Addr.add_lit, hWc, World.cell?_setCells_out _ _ _ _ _ (fun h _ => absurd h hbN)]
        exact hOb _ v (hcs (i + j) v (by rwa [List.getElem?_drop] at hj)))
      (fun j hj => by rw [hWc]; exact isSome_setCells _ _ _ _ (fun t ht => hN _ (by simp at ht; omega)) _ (hN _ (by omega)))
      (fun j hj => by rw [hWf, World.frozen?_setCells]; exact hNf _) (fun v hv => h1c v (List.mem_of_mem_drop hv))
  subst hW1
  have hE1 : ∀ x, ((w.alloc (.cells ROW 121)).drew).cell? x = (w.drew.alloc (.cells ROW 121)).cell? x := fun x => rfl
  have hE2 : ∀ x, ((w.alloc (.cells ROW 121)).drew).frozen? x = (w.drew.alloc (.cells ROW 121)).frozen? x := fun x => rfl
  have hF1 : ∀ x, (((w.alloc (.cells ROW 121)).drew.setCells w.heap.size i [p]).drew).cell? x = ((w.drew.alloc (.cells ROW 121)).setCells w.heap.size i [p]).cell? x := fun x => rfl
  have hF2 : ∀ x, (((w.alloc (.cells ROW 121)).drew.setCells w.heap.size i [p]).drew).frozen? x = ((w.drew.alloc (.cells ROW 121)).setCells w.heap.size i [p]).frozen? x := fun x => rfl
  have hw1 : IntKind.i64.wrap ((i : Int) + 1) = (i : Int) + 1 := by rw [IntKind.wrap_i64]; omega
  have hb1 : (0 : Int) ≤ (i : Int) + 1 := by omega
  have hin : i ≤ n := by omega
  have htn : ((i : Int) + 1).toNat = i + 1 := by omega
  have hb3 : (i : Int) ≤ (n : Int) := by omega
  have HRS := Lib.hid hRs; have HRI := Lib.hid hRi; have HGM := Lib.hid hGm; have HXL := Lib.hid hxl
  clear hkk hik hold hROW hG hRs hRi ho hcs hvs hv h1v h1c hp hN hNf hOb hOv hdl hGm hxl
  go_enter Tryz.func134, Tryz.ntmps134
  go_wp2_with (first
    | (at_builtin; refine Lib.wpList_append_run _ rfl _ _ _ _ rfl _ _ rfl rfl _ _ (hrz _) ?_)
    | (at_builtin; refine wpList_copy_runI _ rfl _ _ 97 97 rfl _ _ rfl rfl (hcpA _ hE1 hE2 _ _) ?_)
    | (at_builtin; refine wpList_copy_runI _ rfl _ _ 97 97 rfl _ _ rfl rfl (hcpB _ (fun _ => rfl) (fun _ => rfl) _ _ _) ?_))
  go_region_law (refine step_copy_runI rfl _ _ 97 97 rfl (.slice (some ⟨w.heap.size, i + 1, none⟩) (n + 1 - (i + 1)) (G - (i + 1))) (.slice (some ⟨g, i, none⟩) (n - i) (n - i)) (by simp [Act.eval, Act.put]) (by simp [Act.eval, Act.put]) (hcpB _ hF1 hF2 3 (G - (i + 1)) (n - i)) ?_)
  go_wp2
  go_ret
  obtain ⟨c1, q1, q2⟩ := setCells_blk w.heap.size 121 (0, 0) [p] i (w.alloc (.cells ROW 121)).drew ROW (heap_alloc_new w _)
  obtain ⟨c2, r1, r2⟩ := setCells_blk w.heap.size 121 (0, 0) (xs.drop i) (i + 1) (((w.alloc (.cells ROW 121)).drew.setCells w.heap.size i [p]).drew) c1 q1
  refine ⟨_, _, rfl, own_of_cells r1 (by rw [r2, q2]; exact HRS.out) hB HGM.out hGn (by rw [insPV_len (by rw [HXL.out]; omega), HXL.out]) ?_, ?_⟩
  · intro j hj
    exact ins_cells HXL.out (by omega) (fun k hk => (box_at w ROW k).trans (HRI.out k hk)) (fun k hk => by rw [box_at w ROW k, Array.getElem?_eq_getElem (by rw [HRS.out]; omega)]; rfl) j hj
  · exact below_setCells (Below.drew (below_setCells (Below.drew ((Below.refl _ _).alloc (Nat.le_refl _) _)) (Nat.le_refl _) _ _)) (Nat.le_refl _) _ _
set_option maxHeartbeats 4000000 in
set_option maxRecDepth 100000 in
theorem insShift (g n cap i B vb : Nat) (xs : List Value) (p : Value) (w : World) (ho : w.ownsRow B 121 1 (.slice (some ⟨g, 0, none⟩) n cap) n xs) (hi : i < n) (hroom : n + 1 ≤ cap) (hn : n ≤ 1000) (hv : w.heap[vb]? = some (.cells #[p] 121 (0, 0))) (hvg : vb ≠ g) (hp : p.oneCell' = true) (h1c : ∀ v ∈ xs, v.oneCell' = true) :
    Calls Tryz.prog 134 #[.slice (some ⟨g, 0, none⟩) n cap, .int .i64 (i : Int), .slice (some ⟨vb, 0, none⟩) 1 1] w fun e w' => e = .returned (.slice (some ⟨g, 0, none⟩) (n + 1) cap) ∧ w'.ownsRow B 121 1 (.slice (some ⟨g, 0, none⟩) (n + 1) cap) (n + 1) (insPV xs i p) ∧ w.grownBy w' (some g) := by
  obtain ⟨i0, hi0, hz0, hzs, hzb⟩ := info_parts infoQ
  have mixed := mixed
  have hxl : xs.length = n := by have := ho.1; omega
  obtain ⟨cur, hBg, hblk, hcapm, hcs0, htk⟩ : ∃ cur, B ≤ g ∧ w.heap[g]? = some (.cells cur 121 (0, 0)) ∧ cap ≤ maxLen ∧ cur.size = cap ∧ cur.toList.take n = xs := by
    rcases ho.2 with ⟨e, _⟩ | ⟨g', c', cur, e, h1, h2, h3, h4, h5, h6⟩
    · cases e
    · cases e; exact ⟨cur, h1, h2, h4, by omega, by rw [← h6, Nat.mul_one]⟩
  have hc63 : cap ≤ 9223372036854775807 := by unfold maxLen at hcapm; omega
  have hz2 : ¬ ((i : Int) = (n : Int)) := by omega
  have hsz : (Tryz.prog.info? 121).map (·.size) = some 1 := by rw [hi0]; simp [hzs]
  have hcell : ∀ j, w.cell? ⟨g, j, none⟩ = cur[j]? := fun j => cell_of_row w g j cur _ (0, 0) hblk
  have hcs : ∀ j v, xs[j]? = some v → w.cell? ⟨g, j, none⟩ = some v := fun j v hj => by
    have hjl := (List.getElem?_eq_some_iff.1 hj).1
    rw [ho.cellAt j (by omega)]; exact hj
  have hsp : ∀ j, j < n + 1 → (w.cell? ⟨g, j, none⟩).isSome = true := fun j hj => by rw [hcell, Array.getElem?_eq_getElem (by omega)]; rfl
  have hfz : ∀ j, w.frozen? ⟨g, j, none⟩ = false := fun j => by simp [World.frozen?, hblk]
  have hvs : ∀ j v, [p][j]? = some v → w.cell? ⟨vb, j, none⟩ = some v := by
    intro j u hj
    have : j = 0 := by have := (List.getElem?_eq_some_iff.1 hj).1; simp at this; omega
    subst this
    simp at hj; subst hj
    exact cell_of_row w vb 0 _ _ (0, 0) hv
  have h1v : ∀ u ∈ [p], u.oneCell' = true := by intro u hu; simp at hu; subst hu; exact hp
  have hov : ∀ lb cb, (callFunc 143 #[.slice (some ⟨vb, 0, none⟩) 1 1, .slice (some ⟨g, i + 1, none⟩) lb cb]).run Tryz.prog w = .ok (.value (.bool false)) w := fun lb cb => by
    rw [run_callFunc_extern Tryz.func143 (by kernel_rfl) (by kernel_rfl) (by kernel_rfl) (e := Extern.SlicesOverlaps.overlaps #[97, 97] #[4]) (by kernel_rfl),
      Lib.run_overlaps_apart w 97 4 121 Tryz.underlying97 1 (fun w => by simp [sizeOf, typeInfo, hi0, hzs]) ⟨vb, 0, none⟩ ⟨g, i + 1, none⟩ 1 1 lb cb hvg 121 121 1 cur.size (by simp [World.shape?, hv]) (by simp [World.shape?, hblk]) (by omega) (by simp [World.frozen?, hv]) (by simp [World.frozen?, hv])]
    rfl
  have hdl : (xs.drop i).length = n - i := by rw [List.length_drop, hxl]
  have hw1 : IntKind.i64.wrap ((i : Int) + 1) = (i : Int) + 1 := by rw [IntKind.wrap_i64]; omega
  have hb1 : (0 : Int) ≤ (i : Int) + 1 := by omega
  have hin : i ≤ n := by omega
  have htn : ((i : Int) + 1).toNat = i + 1 := by omega
  have hb2 : ¬ (cap = i + 1) := by omega
  have hb3 : (i : Int) ≤ (n : Int) + 1 := by omega
  have hb4 : ¬ (cap = i) := by omega
  have hcp1 : ∀ ty dc sc, (Builtin.copy_ #[97, 97] ty #[.slice (some ⟨g, i + 1, none⟩) (n - i) dc, .slice (some ⟨g, i, none⟩) (n + 1 - i) sc]).run Tryz.prog w.drew = .ok (goInt (xs.drop i).length) (w.drew.setCells g (i + 1) (xs.drop i)) := fun ty dc sc =>
    run_copy_cells w.drew _ _ ty 121 g (i + 1) (n - i) dc ⟨g, i, none⟩ (n + 1 - i) sc (xs.drop i) Tryz.underlying97 hsz (by rw [hdl]; simp only [Nat.min_def]; split <;> omega)
      (fun j v hj => by rw [Addr.add_lit]; exact hcs (i + j) v (by rwa [List.getElem?_drop] at hj))
      (fun j hj => hsp _ (by omega)) (fun j hj => hfz _) (fun v hv => h1c v (List.mem_of_mem_drop hv))
  obtain ⟨W1, hW1⟩ : ∃ W1, W1 = w.drew.setCells g (i + 1) (xs.drop i) := ⟨_, rfl⟩
  have hsp1 : ∀ k, k < n + 1 → (W1.cell? ⟨g, k, none⟩).isSome = true := fun k hk => by
    rw [hW1]
    exact isSome_setCells g (xs.drop i) (i + 1) w.drew (fun j hj => hsp (i + 1 + j) (by omega)) k (hsp k hk)
  have hcp2 : ∀ (W : World), (∀ x, W.cell? x = W1.cell? x) → (∀ x, W.frozen? x = W1.frozen? x) → ∀ ty dc, (Builtin.copy_ #[97, 97] ty #[.slice (some ⟨g, i, none⟩) (n + 1 - i) dc, .slice (some ⟨vb, 0, none⟩) 1 1]).run Tryz.prog W = .ok (goInt [p].length) (W.setCells g i [p]) := fun W hWc hWf ty dc =>
    run_copy_cells W _ _ ty 121 g i (n + 1 - i) dc ⟨vb, 0, none⟩ 1 1 [p] Tryz.underlying97 hsz (by simp only [List.length_cons, List.length_nil, Nat.min_def]; split <;> omega)
      (fun j v hj => by
        rw [Addr.add_lit, hWc, hW1, World.cell?_setCells_out g _ _ _ _ (fun h _ => absurd h hvg), Nat.zero_add]
        exact hvs j v hj)
      (fun j hj => by rw [hWc]; exact hsp1 _ (by simp at hj; omega)) (fun j hj => by rw [hWf, hW1, World.frozen?_setCells]; exact hfz _) h1v
  rw [← hW1] at hcp1
  have HW := Lib.hid hW1; have HBLK := Lib.hid hblk; have HXL := Lib.hid hxl; have HSP := Lib.hid hsp; have HCS := Lib.hid hcs; have HSZ := Lib.hid hcs0; have HCM := Lib.hid hcapm
  clear ho hW1 hblk hxl hsp hcs hcs0 hcapm htk hcell hfz hvs h1v hv hdl hsp1 h1c hp
  go_enter Tryz.func134, Tryz.ntmps134
  go_wp2_with (simp only [hov])
  go_region_law (refine step_copy_runI rfl _ _ 97 97 rfl _ _ (by simp [Act.eval, Act.put]) (by simp [Act.eval, Act.put]) (hcp1 _ _ _) ?_)
  go_wp2_with (at_builtin; refine wpList_copy_runI _ rfl _ _ 97 97 rfl _ _ rfl rfl (hcp2 _ (fun _ => rfl) (fun _ => rfl) _ _) ?_)
  go_ret
  rw [HW.out]
  obtain ⟨c1, q1, q2⟩ := setCells_blk g 121 (0, 0) (xs.drop i) (i + 1) w.drew cur HBLK.out
  obtain ⟨c2, r1, r2⟩ := setCells_blk g 121 (0, 0) [p] i (w.drew.setCells g (i + 1) (xs.drop i)) c1 q1
  refine ⟨rfl, own_of_cells r1 (by rw [r2, q2]; exact HSZ.out) hBg HCM.out hroom (by rw [insPV_len (by rw [HXL.out]; omega), HXL.out]) ?_, ?_⟩
  · intro j hj
    exact ins_cells2 (V := w.drew) (p := p) HXL.out (by omega) (fun k hk => by
      have hk2 : k < xs.length := by have := HXL.out; omega
      rw [List.getElem?_eq_getElem hk2]
      exact HCS.out k _ (List.getElem?_eq_getElem hk2)) (fun k hk => HSP.out k hk) j hj
  · exact grown_setCells (grown_setCells (grownB (drewB w) (some g)) _ _) _ _
end Go.Proofs.YtbkgmpkednkbcaaGreatDoor
