/-
  laws.toCpu and laws.toIntA16 copy a processor and its registers; conditions: none but those in each head.
-/
import Derived.Test.YtbkgmpkednkbcaaGreatDoorMathCpu
import Derived.Test.YtbkgmpkednkbcaaGreatDoorProg
import Derived.WalkKit
import Derived.Below
import Derived.OpenShut
import Derived.Lib.Hide
import Derived.Deep.MidRow
import Derived.Laws.ResultCell
import Derived.Laws.NewBlocks
import Derived.Laws.CopyOwn
import Derived.Deep.Cut
namespace Go.Proofs.YtbkgmpkednkbcaaGreatDoor
open Go.RowKit
set_option linter.unusedVariables false
theorem lt_of_blk' {W : World} {b : Nat} {o : Obj} (h : W.heap[b]? = some o) : b < W.heap.size := by
  rcases Nat.lt_or_ge b W.heap.size with h1 | h1
  · exact h1
  · simp [Array.getElem?_eq_none h1] at h
theorem regA_one (f : Nat → Int) : (regA f).all (·.oneCell') = true := by simp [regA, Value.oneCell']
theorem regA_size (f : Nat → Int) : (regA f).size = 16 := rfl
theorem regA_eq {f g : Nat → Int} (h : ∀ j, j < 16 → g j = f j) : regA g = regA f := by
  unfold regA
  rw [h 0 (by decide), h 1 (by decide), h 2 (by decide), h 3 (by decide), h 4 (by decide), h 5 (by decide), h 6 (by decide), h 7 (by decide), h 8 (by decide), h 9 (by decide), h 10 (by decide), h 11 (by decide), h 12 (by decide), h 13 (by decide), h 14 (by decide), h 15 (by decide)]
def AT : TypeId := 22
structure AI (w W : World) (f g : Nat → Int) : Prop where
  a : W.heap[w.heap.size]? = some (.cells (regA f) 22 (0, 0))
  r : W.heap[w.heap.size + 1]? = some (.cells (regA fun _ => 0) 22 (0, 0))
  o : W.heap[w.heap.size + 1 + 1]? = some (.cells (regA g) 22 (0, 0))
  be : Below w.heap.size w W
theorem AI.new (w : World) (f : Nat → Int) : AI w (((w.alloc (.cells (regA f) 22)).alloc (.cells (regA fun _ => 0) 22)).alloc (.cells (regA fun _ => 0) 22)) f (fun _ => 0) := by
  have e1 := heap_alloc_new w (.cells (regA f) 22)
  have e2 := heap_alloc_new (w.alloc (.cells (regA f) 22)) (.cells (regA fun _ => 0) 22)
  have e3 := heap_alloc_new ((w.alloc (.cells (regA f) 22)).alloc (.cells (regA fun _ => 0) 22)) (.cells (regA fun _ => 0) 22)
  have z2 : (w.alloc (.cells (regA f) 22)).heap.size = w.heap.size + 1 := by simp
  have z3 : ((w.alloc (.cells (regA f) 22)).alloc (.cells (regA fun _ => 0) 22)).heap.size = w.heap.size + 1 + 1 := by simp
  rw [z2] at e2; rw [z3] at e3
  exact ⟨(Below.heap_alloc _ _ _ (by simp; omega)).trans ((Below.heap_alloc _ _ _ (by simp)).trans e1), (Below.heap_alloc _ _ _ (by simp)).trans e2, e3, (((Below.refl _ _).alloc (Nat.le_refl _) _).alloc (by simp) _).alloc (by simp; omega) _⟩
theorem row_set {W : World} {b : Nat} {cs ds : Array Value} {t : TypeId} (h : W.heap[b]? = some (.cells cs t (0, 0))) (i : Nat) (v : Value) (e : cs.setIfInBounds i v = ds) : (W.setCell ⟨b, i, none⟩ v).heap[b]? = some (.cells ds t (0, 0)) := by
  simp [World.setCell, Array.getElem?_modify, h, e]
theorem AI.set {w W : World} {f g : Nat → Int} (h : AI w W f g) (k : Nat) (hk : k < 16) (v : Int) : AI w (W.setCell ⟨w.heap.size + 1 + 1, k, none⟩ (.int .i64 v)) f (upd g k v) :=
  ⟨(Below.heap_setCell _ _ _ _ (by simp; omega)).trans h.a, (Below.heap_setCell _ _ _ _ (by simp)).trans h.r, row_set h.o k _ (regA_set g v k hk), h.be.setCell (by simp; omega) _⟩
set_option maxRecDepth 100000 in
set_option maxHeartbeats 2000000 in
theorem toA16 (f : Nat → Int) (w : World) :
    Calls Tryz.prog 37 #[.agg (regA f)] w fun e w' => e = .returned (.agg (regA f)) ∧ Below w.heap.size w w' := by
  have A0 := Lib.hid (AI.new w f)
  have hO := Lib.hid (regA_one f)
  have hZ := Lib.hid (show regA (fun _ => 0) = #[.int .i64 0, .int .i64 0, .int .i64 0, .int .i64 0, .int .i64 0, .int .i64 0, .int .i64 0, .int .i64 0, .int .i64 0, .int .i64 0, .int .i64 0, .int .i64 0, .int .i64 0, .int .i64 0, .int .i64 0, .int .i64 0] from rfl)
  go_enter Tryz.func37, Tryz.ntmps37
  go_wp2_with fail
  go_loopw [4] (fun i wr => ∃ (k : Nat) (g : Nat → Int), k ≤ 16 ∧ i = .int .i64 k ∧ Hid (∀ j, j < k → g j = f j) ∧ Hid (AI w wr f g)) (fun i _ => 16 - (intOf i).toNat)
  case atStart => exact ⟨0, fun _ => 0, by omega, rfl, Lib.hid (fun j h => absurd h (by omega)), A0⟩
  case round =>
    obtain ⟨k, g, hk, rfl, hg, hA⟩ := hrel
    by_cases hlt : k < 16
    · have c1 := (cell_of_row _ _ k _ _ _ hA.out.a).trans (regA_at f k hlt)
      have c2 := (cell_of_row _ _ k _ _ _ hA.out.o).trans (regA_at g k hlt)
      have f2 : wr.frozen? ⟨w.heap.size + 1 + 1, k, none⟩ = false := by simp [World.frozen?, hA.out.o]
      have hi0 : (0 : Int) ≤ (k : Int) := by omega
      have hi1 : (k : Int) < 16 := by omega
      have A1 := Lib.hid (hA.out.set k hlt (f k))
      have hk' : ((k : Int)).toNat = k := by omega
      go_wp2
      go_roundw
      case rel => exact ⟨k + 1, upd g k (f k), by omega, by go_num, Lib.hid (fun j hj => by unfold upd; split; · next e => rw [e]
                                                                                            · exact hg.out j (by omega)), A1⟩
      case measure => simp [intOf]; omega
    · obtain rfl : k = 16 := by omega
      have eg := regA_eq hg.out
      have R := Lib.hid (eg ▸ hA.out.o)
      have Z := Lib.hid hA.out.r
      have Y := Lib.hid (setRow_heap _ _ _ (regA f) _ _ hA.out.r)
      have D := Lib.hid (Go.below_setRow hA.out.be (by omega : w.heap.size ≤ w.heap.size + 1) (regA f))
      go_wp2_with (first | (refine wpList_load_row rfl 22 (.tmp 3) rfl (w.heap.size + 1 + 1) rfl 22 (regA f) (0, 0) _ R.out Tryz.underlying22 rfl (by kernel_rfl) ?_) | (refine wpList_store_row rfl 22 (.tmp 2) (.tmp 14) rfl (w.heap.size + 1) (regA f) rfl rfl 22 _ Z.out (by kernel_rfl) rfl hO.out ?_))
      refine bodyPost_ret (v := .agg (regA f)) (by exact results_cell_row Tryz.results37 _ _ (w.heap.size + 1) 22 (regA f) (0, 0) _ rfl Y.out Tryz.underlying22 rfl (by kernel_rfl)) (by rfl) ⟨rfl, D.out⟩

def setMany (cs : Array Value) : Nat → List Value → Array Value
  | _, [] => cs
  | o, v :: r => setMany (cs.setIfInBounds o v) (o + 1) r
theorem setCells_row (b : Nat) (t : TypeId) : ∀ (vs : List Value) (o : Nat) (W : World) (cs : Array Value), W.heap[b]? = some (.cells cs t (0, 0)) → (W.setCells b o vs).heap[b]? = some (.cells (setMany cs o vs) t (0, 0))
  | [], o, W, cs, h => h
  | v :: r, o, W, cs, h => setCells_row b t r (o + 1) _ _ (row_set h o v rfl)
theorem setCells_far (b k : Nat) (hk : k ≠ b) : ∀ (vs : List Value) (o : Nat) (w : World), (w.setCells b o vs).heap[k]? = w.heap[k]?
  | [], o, w => rfl
  | v :: r, o, w => (setCells_far b k hk r (o + 1) _).trans (Below.heap_setCell _ _ _ _ (by simpa using hk))
theorem setCells_be {w W : World} {B g : Nat} (h : Below B w W) (hg : B ≤ g) : ∀ (vs : List Value) (o : Nat), Below B w (W.setCells g o vs) := by
  intro vs
  induction vs generalizing W with
  | nil => intro o; exact h
  | cons v r ih => intro o; exact ih (h.setCell (by show B ≤ g; omega) v) (o + 1)
theorem many_regs (y : Cp) (f : Nat → Int) : setMany (cpV y) 0 (regA f).toList = cpV { y with rs := f } := by kernel_rfl
/-- within toCpu -/
structure TC (w W : World) (c y : Cp) : Prop where
  a : W.heap[w.heap.size]? = some (.cells (cpV c) 24 (0, 0))
  r : W.heap[w.heap.size + 1]? = some (.cells (cpV cp0) 31 (0, 0))
  o : W.heap[w.heap.size + 1 + 1]? = some (.cells (cpV y) 31 (0, 0))
  be : Below w.heap.size w W
theorem TC.new (w : World) (c : Cp) : TC w (((w.alloc (.cells (cpV c) 24)).alloc (.cells (cpV cp0) 31)).alloc (.cells (cpV cp0) 31)) c cp0 := by
  have e1 := heap_alloc_new w (.cells (cpV c) 24)
  have e2 := heap_alloc_new (w.alloc (.cells (cpV c) 24)) (.cells (cpV cp0) 31)
  have e3 := heap_alloc_new ((w.alloc (.cells (cpV c) 24)).alloc (.cells (cpV cp0) 31)) (.cells (cpV cp0) 31)
  have z2 : (w.alloc (.cells (cpV c) 24)).heap.size = w.heap.size + 1 := by simp
  have z3 : ((w.alloc (.cells (cpV c) 24)).alloc (.cells (cpV cp0) 31)).heap.size = w.heap.size + 1 + 1 := by simp
  rw [z2] at e2; rw [z3] at e3
  exact ⟨(Below.heap_alloc _ _ _ (by simp; omega)).trans ((Below.heap_alloc _ _ _ (by simp)).trans e1), (Below.heap_alloc _ _ _ (by simp)).trans e2, e3, (((Below.refl _ _).alloc (Nat.le_refl _) _).alloc (by simp) _).alloc (by simp; omega) _⟩
theorem TC.call {w W W' : World} {c y : Cp} (h : TC w W c y) (hb : Below W.heap.size W W') : TC w W' c y :=
  ⟨(hb.block _ (lt_of_blk' h.a)).trans h.a, (hb.block _ (lt_of_blk' h.r)).trans h.r, (hb.block _ (lt_of_blk' h.o)).trans h.o, h.be.trans (hb.mono h.be.size)⟩
theorem TC.regs {w W : World} {c y : Cp} (h : TC w W c y) (f : Nat → Int) : TC w (W.setCells (w.heap.size + 1 + 1) 0 (regA f).toList) c { y with rs := f } :=
  ⟨(setCells_far _ _ (by omega) _ _ _).trans h.a, (setCells_far _ _ (by omega) _ _ _).trans h.r, (many_regs y f) ▸ (setCells_row _ _ _ _ _ _ h.o), setCells_be h.be (by omega) _ _⟩
theorem TC.ip {w W : World} {c y : Cp} (h : TC w W c y) (v : Int) : TC w (W.setCell ⟨w.heap.size + 1 + 1, 16, none⟩ (.int .i64 v)) c { y with ip := v } :=
  ⟨(Below.heap_setCell _ _ _ _ (by simp; omega)).trans h.a, (Below.heap_setCell _ _ _ _ (by simp)).trans h.r, row_set h.o 16 _ (cpV_ip y v), h.be.setCell (by simp; omega) _⟩
theorem TC.fl {w W : World} {c y : Cp} (h : TC w W c y) (v : Int) : TC w (W.setCell ⟨w.heap.size + 1 + 1, 17, none⟩ (.int .i64 v)) c { y with fl := v } :=
  ⟨(Below.heap_setCell _ _ _ _ (by simp; omega)).trans h.a, (Below.heap_setCell _ _ _ _ (by simp)).trans h.r, row_set h.o 17 _ (cpV_fl y v), h.be.setCell (by simp; omega) _⟩
theorem regs_range {W : World} {b : Nat} {c : Cp} {t : TypeId} (h : W.heap[b]? = some (.cells (cpV c) t (0, 0))) : W.rangeAt b 0 (regA c.rs).toList := World.rangeAt_of_block h 0 16
theorem regs_there {W : World} {b : Nat} {c : Cp} {t : TypeId} (h : W.heap[b]? = some (.cells (cpV c) t (0, 0))) : W.there b 0 16 := fun j hj => by
  refine ⟨?_, by simp [World.frozen?, h]⟩
  rw [cell_of_row _ b (0 + j) _ _ _ h, Nat.zero_add, cpV_at c j hj]; rfl
set_option maxRecDepth 100000 in
set_option maxHeartbeats 2000000 in
theorem toCpuC (c : Cp) (w : World) :
    Calls Tryz.prog 18 #[.agg (cpV c)] w fun e w' => e = .returned (.agg (cpV c)) ∧ Below w.heap.size w w' := by
  have CA := Lib.hid (toA16 c.rs)
  have T0 := Lib.hid (TC.new w c)
  have hO := Lib.hid (cpV_one c)
  have R0 := Lib.hid (regs_range T0.out.a)
  have hc16 : (cpV c)[16]? = some (.int .i64 c.ip) := rfl
  have hc17 : (cpV c)[17]? = some (.int .i64 c.fl) := rfl
  generalize hV : cpV c = V at *
  have HV := Lib.hid hV
  clear hV
  go_enter Tryz.func18, Tryz.ntmps18
  go_wp2_with (refine wpList_load_mid rfl 22 (.tmp 4) rfl w.heap.size 0 rfl (regA c.rs).toList _ R0.out Tryz.underlying22 rfl (by kernel_rfl) ?_)
  refine (CA.out _).mono ?_
  rintro e w1 ⟨rfl, hb⟩
  have T1 := Lib.hid (T0.out.call hb)
  clear hb T0 R0 CA
  have T2 := Lib.hid (T1.out.regs c.rs)
  have H1 := Lib.hid (regs_there T1.out.o)
  have a16 := Lib.hid ((cell_of_row _ _ 16 _ _ _ T2.out.a).trans (show (cpV c)[16]? = some (.int .i64 c.ip) from rfl))
  have o16 := Lib.hid ((cell_of_row _ _ 16 _ _ _ T2.out.o).trans (show (cpV _)[16]? = some (.int .i64 0) from rfl))
  have f16 := Lib.hid (show (w1.setCells (w.heap.size + 1 + 1) 0 (regA c.rs).toList).frozen? ⟨w.heap.size + 1 + 1, 16, none⟩ = false by simp [World.frozen?, T2.out.o])
  have a17 := Lib.hid ((cell_of_row _ _ 17 _ _ _ T2.out.a).trans (show (cpV c)[17]? = some (.int .i64 c.fl) from rfl))
  have o17 := Lib.hid ((cell_of_row _ _ 17 _ _ _ T2.out.o).trans (show (cpV _)[17]? = some (.int .i64 0) from rfl))
  have f17 := Lib.hid (show (w1.setCells (w.heap.size + 1 + 1) 0 (regA c.rs).toList).frozen? ⟨w.heap.size + 1 + 1, 17, none⟩ = false by simp [World.frozen?, T2.out.o])
  have T4 := Lib.hid (show TC w (((w1.setCells (w.heap.size + 1 + 1) 0 (regA c.rs).toList).setCell ⟨w.heap.size + 1 + 1, 16, none⟩ (.int .i64 c.ip)).setCell ⟨w.heap.size + 1 + 1, 17, none⟩ (.int .i64 c.fl)) c c from (T2.out.ip c.ip).fl c.fl)
  have R4 := Lib.hid (show (((w1.setCells (w.heap.size + 1 + 1) 0 (regA c.rs).toList).setCell ⟨w.heap.size + 1 + 1, 16, none⟩ (.int .i64 c.ip)).setCell ⟨w.heap.size + 1 + 1, 17, none⟩ (.int .i64 c.fl)).heap[w.heap.size + 1 + 1]? = some (.cells V 31 (0, 0)) from HV.out ▸ T4.out.o)
  have Z4 := Lib.hid T4.out.r
  have Y4 := Lib.hid (setRow_heap _ _ _ V _ _ T4.out.r)
  have D4 := Lib.hid (Go.below_setRow T4.out.be (by omega : w.heap.size ≤ w.heap.size + 1) V)
  have sz : V.size = 18 := by rw [← HV.out]; rfl
  have SZ := Lib.hid sz
  clear T1 T2 T4 sz
  go_upto_region 5 with ((refine wpList_store_mid rfl 22 (.tmp 7) (.tmp 6) rfl (w.heap.size + 1 + 1) 0 (regA c.rs) rfl rfl H1.out (by kernel_rfl) (regA_one c.rs) ?_; generalize w1.setCells (w.heap.size + 1 + 1) 0 (regA c.rs).toList = W2 at *; (have a16' := a16.out); (have o16' := o16.out); (have f16' := f16.out); (have a17' := a17.out); (have o17' := o17.out); (have f17' := f17.out)))
  go_wp2_with (first | (refine wpList_load_row rfl 31 (.tmp 3) rfl (w.heap.size + 1 + 1) rfl 31 V (0, 0) _ R4.out Tryz.underlying31 rfl (by rw [SZ.out]; kernel_rfl) ?_) | (refine wpList_store_row rfl 31 (.tmp 2) (.tmp 14) rfl (w.heap.size + 1) V rfl rfl 31 _ Z4.out (by rw [SZ.out]; kernel_rfl) (by rw [SZ.out]; rfl) hO.out ?_))
  refine bodyPost_ret (v := .agg V) (by exact results_cell_row Tryz.results18 _ _ (w.heap.size + 1) 31 V (0, 0) _ rfl Y4.out Tryz.underlying31 rfl (by rw [SZ.out]; kernel_rfl)) (by rfl) ⟨rfl, D4.out⟩
end Go.Proofs.YtbkgmpkednkbcaaGreatDoor
