/-
  What spec.Padded and impl.Padded answer: the text, filled up to whole pages; conditions: those in each head.
-/
import Derived.Test.YtmoemhnmiabppaaBytes
import Derived.Laws.AppendOwn
import Derived.Laws.IdiomStrings
import Derived.Test.YtmoemhnmiabppaaShelf
namespace Go.Proofs.Ytmoemhnmiabppaa
open Go.RowKit
set_option linter.unusedVariables false
set_option linter.unusedSimpArgs false
/-- a row of bytes that the call writes on; its mark, if it has one, lies behind its last cell -/
def BufZ (w : World) (B : Nat) (v : Value) (l : List UInt8) : Prop :=
  ∃ g cap cur fz, v = .slice (some ⟨g, 0, none⟩) l.length cap ∧ B ≤ g ∧ w.heap[g]? = some (.cells cur 5 fz) ∧ (fz = (0, 0) ∨ cap ≤ fz.1) ∧ l.length ≤ cap ∧ cap ≤ maxLen ∧ cur.size = cap ∧ cur.toList.take l.length = BV l
theorem bufZ_of_string (w : World) (s : ByteArray) (hs : s.size ≤ maxLen) :
    BufZ (w.drew.alloc (.cells (bytesRow s (grownCap w s.size 0 5)) 5 ((bytesRow s (grownCap w s.size 0 5)).size, (bytesRow s (grownCap w s.size 0 5)).size + 1))) w.heap.size (.slice (some ⟨w.heap.size, 0, none⟩) s.size (grownCap w s.size 0 5)) s.data.toList := by
  have hge := grownCap_ge w s.size 0 5
  have hle := grownCap_le_maxLen w s.size 0 5 hs
  have hsz : (bytesRow s (grownCap w s.size 0 5)).size = grownCap w s.size 0 5 := by
    simp only [bytesRow, Array.size_append, Array.size_map, Array.size_replicate]
    have : s.data.size = s.size := rfl
    omega
  refine ⟨w.heap.size, grownCap w s.size 0 5, _, _, rfl, Nat.le_refl _, heap_alloc_new w.drew _, .inr (by rw [hsz]; exact Nat.le_refl _), by rw [show s.data.toList.length = s.size from by simp]; exact hge, hle, hsz, ?_⟩
  simp [bytesRow, BV]
theorem BufZ.cells {w : World} {B g cap : Nat} {l : List UInt8} (h : BufZ w B (.slice (some ⟨g, 0, none⟩) l.length cap) l) : ∀ j u, (BV l)[j]? = some u → w.cell? ((⟨g, 0, none⟩ : Addr).add j) = some u := by
  obtain ⟨g', cap', cur, fz, e, hB, hg, hf, hl, hm, hs, ht⟩ := h
  cases e
  intro j u hu
  have hadd : (⟨g, 0, none⟩ : Addr).add j = ⟨g, j, none⟩ := by unfold Addr.add; split <;> simp_all
  rw [hadd, cell_of_row w g j cur 5 fz hg]
  rw [← ht, List.getElem?_take] at hu
  split at hu
  · simpa using hu
  · cases hu
theorem BufZ.lt {w : World} {B : Nat} {v : Value} {l : List UInt8} (h : BufZ w B v l) : ∀ k, v.ownBlock = some k → B ≤ k ∧ k < w.heap.size := by
  obtain ⟨g, cap, cur, fz, rfl, hB, hg, _⟩ := h
  intro k hk
  simp [Value.ownBlock] at hk
  subst hk
  exact ⟨hB, (Array.getElem?_eq_some_iff.1 hg).1⟩
theorem BufZ.alloc {w : World} {B : Nat} {v : Value} {l : List UInt8} (h : BufZ w B v l) (o : Obj) : BufZ (w.alloc o) B v l := by
  obtain ⟨g, cap, cur, fz, rfl, hB, hg, r⟩ := h
  exact ⟨g, cap, cur, fz, rfl, hB, (heap_alloc_old w o (Array.getElem?_eq_some_iff.1 hg).1).trans hg, r⟩
theorem run_app1 {P : Program} (w : World) (B : Nat) (t ty : TypeId) (i : TypeInfo) (ht : P.underlying t = some (.slice 5)) (hi : P.info? 5 = some i) (hz : i.zero = some (.int .u8 0)) (hs : i.size = 1) (hby : i.bytes = 1)
    (v : Value) (l : List UInt8) (hb : BufZ w B v l) (ad : Addr) (c : Nat) (b : UInt8) (hn : w.cell? ad = some (.int .u8 (b.toNat : Int))) (h63 : l.length + 1 ≤ 140737488355328) (hB : B ≤ w.heap.size) :
    ∃ v' w', (Builtin.append_ #[t, t] ty #[v, .slice (some ad) 1 c]).run P w = .ok v' w' ∧ BufZ w' B v' (l ++ [b]) ∧ w.grownBy w' v.ownBlock := by
  have hnews : ∀ j u, (BV [b])[j]? = some u → w.cell? (ad.add j) = some u := fun j u hj => by
    match j, hj with
    | 0, hj => simp [BV] at hj; subst hj; simpa [Addr.add] using hn
    | (j + 1), hj => simp [BV] at hj
  have hlen : (l ++ [b]).length = l.length + 1 := by simp
  obtain ⟨g, cap, cur, fz, rfl, hBg, hg, hf, hl, hm, hc, htk⟩ := hb
  by_cases hroom : l.length + 1 ≤ cap
  · have hlt : l.length < cur.size := by omega
    have hcell : w.cell? ⟨g, l.length, none⟩ = some cur[l.length] := by simp [World.cell?, hg, hlt]
    have hfro : w.frozen? ⟨g, l.length, none⟩ = false := by
      obtain ⟨lo, hi'⟩ := fz
      simp only [World.frozen?, hg, Bool.and_eq_false_iff, decide_eq_false_iff_not]
      rcases hf with hf | hf
      · cases hf; right; omega
      · left; simp only at hf; omega
    have hfc := run_firstCells_some (P := P) w 1 1 ad 1 c (BV [b]) rfl hnews
    have hadd : (⟨g, 0, none⟩ : Addr).add l.length = ⟨g, l.length, none⟩ := by unfold Addr.add; split <;> simp_all
    have hst : (store ⟨g, l.length, none⟩ (.int .u8 (b.toNat : Int))).run P w = .ok () (w.setRow g (cur.setIfInBounds l.length (.int .u8 (b.toNat : Int)))) := by
      rw [run_store P w _ _ _ rfl, hcell]
      simp [hfro, setCell_eq_setRow w g l.length cur 5 fz _ hg]
    refine ⟨.slice (some ⟨g, 0, none⟩) (l.length + 1) cap, w.setRow g (cur.setIfInBounds l.length (.int .u8 (b.toNat : Int))), ?_, ⟨g, cap, _, fz, by rw [hlen], hBg, setRow_heap w g cur _ 5 _ hg, hf, by rw [hlen]; exact hroom, hm, by simp [hc], ?_⟩, ⟨rfl, rfl, rfl, by simp, fun k _ hk => setRow_other w g k _ (fun e => hk (by simp [Value.ownBlock, e]))⟩⟩
    · have hfc' : (Builtin.firstCells i.size 1 (.slice (some ad) 1 c)).run P w = .ok #[.int .u8 (b.toNat : Int)] w := by rw [hs]; simpa [BV] using hfc
      rw [hs] at hfc'
      have hif : (if l = [] then (⟨g, 0, none⟩ : Addr) else ⟨g, l.length, none⟩) = ⟨g, l.length, none⟩ := by
        by_cases e : l = []
        · subst e; simp
        · rw [if_neg e]
      simp [Builtin.append_, run_underlying ht, sizeOf, typeInfo, hi, Builtin.lenOf, hroom, hfc', hs, Addr.add_lit, storeCells, Addr.add, hif, hst]
    · rw [hlen]
      simp only [Array.toList_setIfInBounds]
      have e1 : (cur.toList.set l.length (.int .u8 (b.toNat : Int))).take (l.length + 1) = cur.toList.take l.length ++ [.int .u8 (b.toNat : Int)] := by
        rw [List.take_succ_eq_append_getElem (by simpa using hlt), List.take_set_of_le (Nat.le_refl _)]
        simp
      rw [e1, htk]
      simp [BV]
  · have hlc : l.length = cap := by omega
    have hcells : ∀ j u, (BV l)[j]? = some u → w.cell? ((⟨g, 0, none⟩ : Addr).add j) = some u := BufZ.cells (B := B) (cap := cap) ⟨g, cap, cur, fz, rfl, hBg, hg, hf, hl, hm, hc, htk⟩
    have hr := run_append_grow (P := P) w t ty 5 i (.int .u8 0) ht hi hz ⟨g, 0, none⟩ l.length cap (BV l) (by rw [hs, BV_len]; omega) hcells ad 1 c (BV [b]) (by rw [hs]; rfl) hnews (by omega) (by omega) (growslice_fits (by omega) (by rw [hby]; omega))
    have hge := grownCap_ge w (l.length + 1) cap 5
    have hcm := grownCap_le_maxLen w (l.length + 1) cap 5 (by unfold maxLen; omega)
    refine ⟨_, _, hr, ⟨w.heap.size, _, _, (0, 0), by rw [hlen], hB, heap_alloc_new w.drew _, .inl rfl, by rw [hlen]; exact hge, hcm, ?_, ?_⟩, ⟨rfl, rfl, rfl, by simp, fun k hk _ => heap_alloc_old w.drew _ hk⟩⟩
    · simp only [Array.size_append, List.size_toArray, size_zeroCells, BV_len, List.length_cons, List.length_nil]
      rw [show (Value.int IntKind.u8 0).cells.size = 1 from rfl]
      omega
    · simp only [Array.toList_append, List.append_assoc]
      rw [hlen, ← List.append_assoc, BV_app, List.take_append_of_le_length (by rw [BV_len, hlen]; exact Nat.le_refl _), List.take_of_length_le (by rw [BV_len, hlen]; exact Nat.le_refl _)]
theorem wp_app1 {P : Program} {w : World} {ops : Array Oper} {rest : List Oper} {o : Oper} {a : Act} {Q : Exit → Act → World → Prop} (hgd : o.guard = none) (s x : Operand) (t : TypeId)
    (ho : o.op = .call { callee := .builtin .append, args := #[s, x], argTypes := #[t, t] }) (B : Nat) (i : TypeInfo) (ht : P.underlying t = some (.slice 5)) (hi : P.info? 5 = some i) (hz : i.zero = some (.int .u8 0)) (hs : i.size = 1) (hby : i.bytes = 1)
    (v : Value) (l : List UInt8) (hv : a.eval s = v) (hb : BufZ w B v l) (ad : Addr) (c : Nat) (b : UInt8) (hx : a.eval x = .slice (some ad) 1 c) (hn : w.cell? ad = some (.int .u8 (b.toNat : Int))) (h63 : l.length + 1 ≤ 140737488355328) (hB : B ≤ w.heap.size)
    (h : ∀ v' w', BufZ w' B v' (l ++ [b]) → w.grownBy w' v.ownBlock → wpList P ops Q rest (a.put o.dst v') w') : wpList P ops Q (o :: rest) a w := by
  refine wpList_plain hgd fun K hK => ?_
  obtain ⟨v', w', hr, h2, h3⟩ := run_app1 (P := P) w B t o.type i ht hi hz hs hby v l hb ad c b hn h63 hB
  unfold Oper.wp execOp
  simp only [ho, resolve, invoke, builtin, Sem.run_bind, Sem.run_pure, Result.andThen_ok, List.map_toArray, List.map_cons, List.map_nil, hv, hx, hr]
  exact hK _ _ (h v' w' h2 h3)
/-- the text, filled up with halts to so many bytes -/
def padL (l : List UInt8) (n : Nat) : List UInt8 := l ++ List.replicate n 244
theorem padL_len (s : ByteArray) (n : Nat) : (padL s.data.toList n).length = s.size + n := by simp [padL]
theorem padL_snoc (l : List UInt8) (n : Nat) : padL l n ++ [244] = padL l (n + 1) := by
  simp [padL, List.replicate_succ']
theorem buf_string {w : World} {B g m cap : Nat} {l : List UInt8} (hl : l.length = m) (h : BufZ w B (.slice (some ⟨g, 0, none⟩) m cap) l) :
    (convert 39 9 (.slice (some ⟨g, 0, none⟩) m cap)).run Try.prog w = .ok (.string ⟨l.toArray⟩) w := by
  subst hl
  refine run_convert_bytes_back w _ _ 5 ⟨g, 0, none⟩ cap l Try.underlying39 Try.underlying5 Try.underlying9 fun j hj => ?_
  exact h.cells j _ (by simp [BV, List.getElem?_eq_getElem hj])
set_option maxHeartbeats 1000000 in
theorem paddedS (s : ByteArray) (n : Nat) (w : World) (h1 : 1 ≤ s.size) (h2 : s.size ≤ 3072) (hn : n < 256) (hd : (s.size + n) % 256 = 0) :
    Calls Try.prog 7 #[.string s] w fun e w' => e = .returned (.tuple #[.string ⟨(padL s.data.toList n).toArray⟩, .int .i64 0]) ∧ Below w.heap.size w w' := by
  obtain ⟨i0, hi, hz0, hz1, hz2⟩ := info_parts infoB
  have hcv := run_bytes_of_string (P := Try.prog) w 9 39 5 s Try.underlying9 Try.underlying39 Try.underlying5
  have hbz := bufZ_of_string w s (by unfold maxLen; omega)
  have hg0 : Below w.heap.size w (w.drew.alloc (.cells (bytesRow s (grownCap w s.size 0 5)) 5 ((bytesRow s (grownCap w s.size 0 5)).size, (bytesRow s (grownCap w s.size 0 5)).size + 1))) := ((Below.refl _ _).drew).alloc (Nat.le_refl _) _
  have hl0 : (padL s.data.toList 0) = s.data.toList := by simp [padL]
  have hbz0 : Hid (BufZ (w.drew.alloc (.cells (bytesRow s (grownCap w s.size 0 5)) 5 ((bytesRow s (grownCap w s.size 0 5)).size, (bytesRow s (grownCap w s.size 0 5)).size + 1))) w.heap.size (.slice (some ⟨w.heap.size, 0, none⟩) s.size (grownCap w s.size 0 5)) (padL s.data.toList 0)) := Lib.hid (by rw [hl0]; exact hbz)
  have HG0 := Lib.hid hg0
  have HI := Lib.hid hi
  clear hbz hg0 hl0
  generalize hC : grownCap w s.size 0 5 = C0 at hcv hbz0 HG0
  clear hC
  generalize hW : (w.drew.alloc (.cells (bytesRow s C0) 5 ((bytesRow s C0).size, (bytesRow s C0).size + 1))) = W0 at hcv hbz0 HG0
  clear hW
  have hne : ((s.size : Int) == 0) = false := beq_eq_false_iff_ne.mpr (by omega)
  have hne2 : ¬ ((s.size : Int) = 0) := by omega
  have hle : decide (3072 < (s.size : Int)) = false := decide_eq_false (by omega)
  have hle2 : (s.size : Int) ≤ 3072 := by omega
  go_enter Try.func7, Try.ntmps7
  go_wp2
  clear hcv
  go_loopw [4] (fun x wr => ∃ (k g cap : Nat), k ≤ n ∧ x = .slice (some ⟨g, 0, none⟩) (s.size + k) cap ∧ Hid (BufZ wr w.heap.size (.slice (some ⟨g, 0, none⟩) (s.size + k) cap) (padL s.data.toList k)) ∧ Hid (Below w.heap.size w wr)) (fun x _ => s.size + n - (match x with | .slice _ m _ => m | _ => 0))
  case atStart => exact ⟨0, w.heap.size, C0, Nat.zero_le _, rfl, hbz0, HG0⟩
  case round =>
    obtain ⟨k, g, cap, hk, rfl, HB, HW⟩ := hrel
    by_cases hlt : k < n
    · have hm : ((((s.size + k : Nat) : Int) % 256) == 0) = false := beq_eq_false_iff_ne.mpr (by omega)
      have hm2 : ((((s.size : Int) + (k : Int)) % 256) == 0) = false := beq_eq_false_iff_ne.mpr (by omega)
      have hsz := HW.out.size
      have hpl := padL_len s k
      go_wp2_with (at_builtin; refine wp_app1 rfl _ _ _ rfl w.heap.size i0 Try.underlying39 HI.out hz0 hz1 hz2 _ (padL s.data.toList k) rfl (HB.out.alloc _) ⟨wr.heap.size, 0, none⟩ 1 244 rfl (by rw [cell_of_row _ _ 0 _ _ _ (heap_alloc_new wr _)]; rfl) (by rw [hpl]; omega) (by simp; omega) ?_; intro v' w1 hb1 hg1)
      obtain ⟨g', cap', rfl⟩ : ∃ g' cap', v' = .slice (some ⟨g', 0, none⟩) (s.size + (k + 1)) cap' := by
        obtain ⟨g', cap', _, _, e, _⟩ := hb1
        exact ⟨g', cap', by rw [e, List.length_append, hpl]; rfl⟩
      rw [padL_snoc] at hb1
      have HB1 := Lib.hid hb1
      have HW1 := Lib.hid (below_app' HW.out hg1 (fun j hj => (HB.out.lt j hj).1))
      clear hb1 hg1 hm hm2 hpl
      go_wp2
      go_roundw
      case rel => exact ⟨k + 1, g', cap', by omega, rfl, HB1, HW1⟩
      case measure => simp; omega
    · obtain rfl : k = n := by omega
      have hm : ((((s.size + k : Nat) : Int) % 256) == 0) = true := beq_iff_eq.mpr (by omega)
      have hm2 : ((((s.size : Int) + (k : Int)) % 256) == 0) = true := beq_iff_eq.mpr (by omega)
      have hcv := buf_string (padL_len s k) HB.out
      go_wp2
      go_ret2
      exact ⟨rfl, HW.out⟩
theorem paddedSNo (s : ByteArray) (w : World) (h : ¬ (1 ≤ s.size ∧ s.size ≤ 3072)) (h2 : s.size ≤ 1048576) :
    Calls Try.prog 7 #[.string s] w fun e w' => e = .returned (.tuple #[.string ByteArray.empty, .int .i64 (if 65536 < s.size then 2 else 28)]) ∧ w = w' := by
  by_cases hb : 65536 < s.size
  · rw [if_pos hb]
    have hb' : (65536 : Int) < (s.size : Int) := by omega
    go_enter Try.func7, Try.ntmps7
    go_wp2
    go_ret2
    exact ⟨rfl, rfl⟩
  · rw [if_neg hb]
    by_cases h0 : s.size = 0
    · have h0' : (s.size : Int) = 0 := by omega
      clear h
      go_enter Try.func7, Try.ntmps7
      go_wp2
      go_ret2
      exact ⟨rfl, rfl⟩
    · have hne : ((s.size : Int) == 0) = false := beq_eq_false_iff_ne.mpr (by omega)
      have hne2 : ¬ ((s.size : Int) = 0) := by omega
      have hb2 : (s.size : Int) ≤ 65536 := by omega
      have hle : (3072 : Int) < (s.size : Int) := by omega
      clear h
      go_enter Try.func7, Try.ntmps7
      go_wp2
      go_ret2
      exact ⟨rfl, rfl⟩
theorem paddedINo (s : ByteArray) (w : World) (h : ¬ (1 ≤ s.size ∧ s.size ≤ 3072)) (h2 : s.size ≤ 1048576) :
    Calls Try.prog 8 #[.string s] w fun e w' => e = .returned (.tuple #[.string ByteArray.empty, .int .i64 (if 65536 < s.size then 2 else 28)]) ∧ w = w' := by
  by_cases hb : 65536 < s.size
  · rw [if_pos hb]
    have hb' : (65536 : Int) < (s.size : Int) := by omega
    go_enter Try.func8, Try.ntmps8
    go_wp2
    go_ret2
    exact ⟨rfl, rfl⟩
  · rw [if_neg hb]
    by_cases h0 : s.size = 0
    · have h0' : (s.size : Int) = 0 := by omega
      clear h
      go_enter Try.func8, Try.ntmps8
      go_wp2
      go_ret2
      exact ⟨rfl, rfl⟩
    · have hne : ((s.size : Int) == 0) = false := beq_eq_false_iff_ne.mpr (by omega)
      have hne2 : ¬ ((s.size : Int) = 0) := by omega
      have hb2 : (s.size : Int) ≤ 65536 := by omega
      have hle : (3072 : Int) < (s.size : Int) := by omega
      clear h
      go_enter Try.func8, Try.ntmps8
      go_wp2
      go_ret2
      exact ⟨rfl, rfl⟩
theorem pagesP (n : Int) (w : World) (h0 : 0 ≤ n) (h1 : n ≤ 1000000) :
    Calls Try.prog 19 #[.int .i64 n] w fun e w' => e = .returned (.int .i64 ((n + 256 - 1) / 256 * 256)) ∧ w = w' := by
  go_enter Try.func19, Try.ntmps19
  go_wp2
  go_ret
  exact ⟨rfl, rfl⟩
theorem repeatL_one (b : UInt8) (n : Nat) : Lib.repeatL [b] n = List.replicate n b := by
  induction n with
  | zero => rfl
  | succ n ih => simp [Lib.repeatL, List.replicate_succ] at ih ⊢; exact ih
set_option maxRecDepth 100000 in
set_option maxHeartbeats 1000000 in
theorem paddedI (s : ByteArray) (n : Nat) (w : World) (h1 : 1 ≤ s.size) (h2 : s.size ≤ 3072) (hn : n < 256) (hd : (s.size + n) % 256 = 0) :
    Calls Try.prog 8 #[.string s] w fun e w' => e = .returned (.tuple #[.string ⟨(padL s.data.toList n).toArray⟩, .int .i64 0]) ∧ Below w.heap.size w w' := by
  have hr := Try.strings_Repeat ⟨#[244]⟩ n w (by omega) (by show 1 * n ≤ _; omega)
  obtain ⟨R, hR⟩ : ∃ R : ByteArray, R = ⟨(Lib.repeatL [244] n).toArray⟩ := ⟨_, rfl⟩
  have hRs : R.size = n := by rw [hR]; show (Lib.repeatL [(244 : UInt8)] n).toArray.size = n; rw [repeatL_one]; simp
  have hRn : R.size ≤ 256 := by omega
  have hsR : s ++ R = ⟨(padL s.data.toList n).toArray⟩ := by
    rw [hR, repeatL_one]; apply ByteArray.ext; simp [padL]
  have hr' : Calls Try.prog 18 #[.string ⟨#[244]⟩, .int .i64 (n : Int)] w fun e w' => e = .returned (.string R) ∧ Below w.heap.size w w' := by rw [hR]; exact hr
  have HRN := Lib.hid hRn
  have HR := Lib.hid hr'; have HS := Lib.hid hsR
  clear hr hr' hR hRs hsR hRn
  have hq : (((s.size : Int) + 256 - 1) / 256) * 256 - (s.size : Int) = (n : Int) := by omega
  have HQ := Lib.hid hq
  clear hq
  have hne : ((s.size : Int) == 0) = false := beq_eq_false_iff_ne.mpr (by omega)
  have hne2 : ¬ ((s.size : Int) = 0) := by omega
  have hle : decide (3072 < (s.size : Int)) = false := decide_eq_false (by omega)
  have hle2 : (s.size : Int) ≤ 3072 := by omega
  clear hd
  go_enter Try.func8, Try.ntmps8
  go_wp2_with fail
  refine (pagesP (s.size : Int) _ (by omega) (by omega)).mono ?_
  rintro e wq ⟨rfl, rfl⟩
  go_wp2_with fail
  rw [HQ.out]
  clear hne hne2 hle hle2
  refine (HR.out).mono ?_
  rintro e w1 ⟨rfl, hb⟩
  have HB := Lib.hid hb
  clear hb
  have hRn := HRN.out
  go_wp2
  go_ret2
  refine ⟨?_, HB.out⟩
  show Ending.returned (.tuple #[.string (s ++ R), .int .i64 0]) = _
  rw [HS.out]
end Go.Proofs.Ytmoemhnmiabppaa
