/-
  laws.toBox, laws.szBox and laws.eqBox: a box is copied, its texts and pages are counted, and what is the same is told so; conditions: none but those in each head.
-/
import Derived.Test.YtbkgmpkednkbcaaGreatDoorMathBox
import Derived.Test.YtbkgmpkednkbcaaGreatDoorWalkCpuT
import Derived.Test.YtbkgmpkednkbcaaGreatDoorWalkCpuE
import Derived.Test.YtbkgmpkednkbcaaGreatDoorWalkEq
import Derived.Test.YtbkgmpkednkbcaaGreatDoorLawMem
namespace Go.Proofs.YtbkgmpkednkbcaaGreatDoor
open Go.RowKit
set_option linter.unusedVariables false
set_option linter.unusedSimpArgs false
def bo0 : Bo := ⟨cp0, 0, 0, ByteArray.empty, 0, ByteArray.empty, 0, 0, 0, 0, 0, 0⟩
theorem boV_mem (b : Bo) (m v : Value) : (boV b m).setIfInBounds 18 v = boV b v := rfl
theorem boV_hp (b : Bo) (m : Value) (v : Int) : (boV b m).setIfInBounds 19 (.int .i64 v) = boV { b with hp := v } m := rfl
theorem boV_bk (b : Bo) (m : Value) (v : Int) : (boV b m).setIfInBounds 20 (.int .i64 v) = boV { b with bk := v } m := rfl
theorem boV_inp (b : Bo) (m : Value) (v : ByteArray) : (boV b m).setIfInBounds 21 (.string v) = boV { b with inp := v } m := rfl
theorem boV_at_ (b : Bo) (m : Value) (v : Int) : (boV b m).setIfInBounds 22 (.int .i64 v) = boV { b with at_ := v } m := rfl
theorem boV_out_ (b : Bo) (m : Value) (v : ByteArray) : (boV b m).setIfInBounds 23 (.string v) = boV { b with out_ := v } m := rfl
theorem boV_ck (b : Bo) (m : Value) (v : Int) : (boV b m).setIfInBounds 24 (.int .i64 v) = boV { b with ck := v } m := rfl
theorem boV_sd (b : Bo) (m : Value) (v : Int) : (boV b m).setIfInBounds 25 (.int .i64 v) = boV { b with sd := v } m := rfl
theorem boV_st (b : Bo) (m : Value) (v : Int) : (boV b m).setIfInBounds 26 (.int .i64 v) = boV { b with st := v } m := rfl
theorem boV_co (b : Bo) (m : Value) (v : Int) : (boV b m).setIfInBounds 27 (.int .i64 v) = boV { b with co := v } m := rfl
theorem boV_ft (b : Bo) (m : Value) (v : Int) : (boV b m).setIfInBounds 28 (.int .i64 v) = boV { b with ft := v } m := rfl
theorem boV_wh (b : Bo) (m : Value) (v : Int) : (boV b m).setIfInBounds 29 (.int .i64 v) = boV { b with wh := v } m := rfl
theorem many_cpu (y : Bo) (m : Value) (c : Cp) : setMany (boV y m) 0 (cpV c).toList = boV { y with c := c } m := by kernel_rfl
/-- within toBox -/
structure TBx (w W : World) (b : Bo) (m : Value) (y : Bo) (my : Value) : Prop where
  a : W.heap[w.heap.size]? = some (.cells (boV b m) 29 (0, 0))
  r : W.heap[w.heap.size + 1]? = some (.cells (boV bo0 (.slice none 0 0)) 36 (0, 0))
  o : W.heap[w.heap.size + 1 + 1]? = some (.cells (boV y my) 36 (0, 0))
  be : Below w.heap.size w W
theorem TBx.new (w : World) (b : Bo) (m : Value) : TBx w (((w.alloc (.cells (boV b m) 29)).alloc (.cells (boV bo0 (.slice none 0 0)) 36)).alloc (.cells (boV bo0 (.slice none 0 0)) 36)) b m bo0 (.slice none 0 0) := by
  have e1 := heap_alloc_new w (.cells (boV b m) 29)
  have e2 := heap_alloc_new (w.alloc (.cells (boV b m) 29)) (.cells (boV bo0 (.slice none 0 0)) 36)
  have e3 := heap_alloc_new ((w.alloc (.cells (boV b m) 29)).alloc (.cells (boV bo0 (.slice none 0 0)) 36)) (.cells (boV bo0 (.slice none 0 0)) 36)
  have z2 : (w.alloc (.cells (boV b m) 29)).heap.size = w.heap.size + 1 := by simp
  have z3 : ((w.alloc (.cells (boV b m) 29)).alloc (.cells (boV bo0 (.slice none 0 0)) 36)).heap.size = w.heap.size + 1 + 1 := by simp
  rw [z2] at e2; rw [z3] at e3
  exact ⟨(Below.heap_alloc _ _ _ (by simp; omega)).trans ((Below.heap_alloc _ _ _ (by simp)).trans e1), (Below.heap_alloc _ _ _ (by simp)).trans e2, e3, (((Below.refl _ _).alloc (Nat.le_refl _) _).alloc (by simp) _).alloc (by simp; omega) _⟩
theorem TBx.call {w W W' : World} {b y : Bo} {m my : Value} (h : TBx w W b m y my) (hb : Below W.heap.size W W') : TBx w W' b m y my :=
  ⟨(hb.block _ (lt_of_blk' h.a)).trans h.a, (hb.block _ (lt_of_blk' h.r)).trans h.r, (hb.block _ (lt_of_blk' h.o)).trans h.o, h.be.trans (hb.mono h.be.size)⟩
theorem TBx.cpu {w W : World} {b y : Bo} {m my : Value} (h : TBx w W b m y my) (c : Cp) : TBx w (W.setCells (w.heap.size + 1 + 1) 0 (cpV c).toList) b m { y with c := c } my :=
  ⟨(setCells_far _ _ (by omega) _ _ _).trans h.a, (setCells_far _ _ (by omega) _ _ _).trans h.r, (many_cpu y my c) ▸ (setCells_row _ _ _ _ _ _ h.o), setCells_be h.be (by omega) _ _⟩
theorem TBx.set {w W : World} {b y y' : Bo} {m my my' : Value} (h : TBx w W b m y my) (i : Nat) (v : Value) (e : (boV y my).setIfInBounds i v = boV y' my') : TBx w (W.setCell ⟨w.heap.size + 1 + 1, i, none⟩ v) b m y' my' :=
  ⟨(Below.heap_setCell _ _ _ _ (by simp; omega)).trans h.a, (Below.heap_setCell _ _ _ _ (by simp)).trans h.r, row_set h.o i _ e, h.be.setCell (by simp; omega) _⟩
theorem box_range {W : World} {g : Nat} {b : Bo} {m : Value} {t : TypeId} (h : W.heap[g]? = some (.cells (boV b m) t (0, 0))) : W.rangeAt g 0 (cpV b.c).toList := by
  have e := World.rangeAt_of_block h 0 18
  rw [show ((boV b m).extract 0 (0 + 18)).toList = (cpV b.c).toList by kernel_rfl] at e
  exact e
theorem box_there {W : World} {g : Nat} {b : Bo} {m : Value} {t : TypeId} (h : W.heap[g]? = some (.cells (boV b m) t (0, 0))) : W.there g 0 18 := fun j hj => by
  refine ⟨?_, by simp [World.frozen?, h]⟩
  rw [cell_of_row _ g (0 + j) _ _ _ h, Nat.zero_add]
  simp [boV_size]; omega
/-- within toBox, behind the copy of the pages -/
structure TBz (w W : World) (b : Bo) (m : Value) (y : Bo) (my : Value) (g : Nat) (l : List Pg) : Prop where
  t : TBx w W b m y my
  k : W.ownsRow w.heap.size 86 3 (.slice (some ⟨g, 0, none⟩) l.length l.length) l.length (PV l)
  n : w.heap.size + 2 < g
theorem TBz.set {w W : World} {b y y' : Bo} {m my my' : Value} {g : Nat} {l : List Pg} (h : TBz w W b m y my g l) (i : Nat) (v : Value) (e : (boV y my).setIfInBounds i v = boV y' my') : TBz w (W.setCell ⟨w.heap.size + 1 + 1, i, none⟩ v) b m y' my' g l :=
  ⟨h.t.set i v e, ownsRow_setCell_other h.k (by have := h.n; simp [Value.ownBlock]; omega) _, h.n⟩
theorem own_blockB {w w' : World} {B e s n c g : Nat} {xs : List Value} (h : w.ownsRow B e s (.slice (some ⟨g, 0, none⟩) n c) n xs) (hb : w'.heap[g]? = w.heap[g]?) : w'.ownsRow B e s (.slice (some ⟨g, 0, none⟩) n c) n xs := by
  refine ⟨h.1, ?_⟩
  rcases h.2 with ⟨h', _⟩ | ⟨g', cap, cur, e1, e2, e3, e4⟩
  · cases h'
  · cases e1
    exact .inr ⟨_, _, cur, rfl, e2, hb.trans e3, e4⟩
theorem setRow_far (w : World) (g k : Nat) (cs : Array Value) (h : k ≠ g) : (w.setRow g cs).heap[k]? = w.heap[k]? := by
  simp [World.setRow, Array.getElem?_modify, Ne.symm h]
set_option maxRecDepth 100000 in
set_option maxHeartbeats 4000000 in
/-- laws.toBox -/
theorem toBoxC (b : Bo) (p : Option Addr) (cap : Nat) (l : List Pg) (w : World) (hr : Rd w p l) (hs : Small l) :
    Calls Tryz.prog 7 #[.agg (boV b (.slice p l.length cap))] w fun e w' => ∃ g, e = .returned (.agg (boV b (.slice (some ⟨g, 0, none⟩) l.length l.length))) ∧ w'.ownsRow w.heap.size 86 3 (.slice (some ⟨g, 0, none⟩) l.length l.length) l.length (PV l) ∧ Below w.heap.size w w' := by
  have CA := Lib.hid (toCpuC b.c)
  have T0 := Lib.hid (TBx.new w b (.slice p l.length cap))
  have R0 := Lib.hid (box_range T0.out.a)
  have HR := Lib.hid hr; have HS := Lib.hid hs
  have hO (g : Nat) := Lib.hid (boV_one b (some ⟨g, 0, none⟩) l.length l.length)
  clear hr hs
  generalize hV : boV b (.slice p l.length cap) = V at *
  have HV := Lib.hid hV
  clear hV
  go_enter Tryz.func7, Tryz.ntmps7
  go_wp2_with (refine wpList_load_mid rfl 24 (.tmp 4) rfl w.heap.size 0 rfl (cpV b.c).toList _ R0.out Tryz.underlying24 rfl (by kernel_rfl) ?_)
  refine (CA.out _).mono ?_
  rintro e w1 ⟨rfl, hb⟩
  have T1 := Lib.hid (T0.out.call hb)
  clear hb T0 R0 CA
  have T2 := Lib.hid (T1.out.cpu b.c)
  have H1 := Lib.hid (box_there T1.out.o)
  have R2 := Lib.hid (HR.out.below T2.out.be)
  have a18 := Lib.hid ((cell_of_row _ _ 18 _ _ _ T2.out.a).trans (show (boV b (.slice p l.length cap))[18]? = some (.slice p l.length cap) from rfl))
  clear T1
  go_upto_region 3 with ((refine wpList_store_mid rfl 31 (.tmp 7) (.tmp 6) rfl (w.heap.size + 1 + 1) 0 (cpV b.c) rfl rfl H1.out (by kernel_rfl) (cpV_one b.c) ?_; generalize w1.setCells (w.heap.size + 1 + 1) 0 (cpV b.c).toList = W2 at *; (have a18' := a18.out)))
  clear H1 a18
  go_wp2_with fail
  refine (toMemoryC p cap l W2 R2.out HS.out).mono ?_
  rintro e w3 ⟨g, hg, rfl, hown, hb3⟩
  have hz2 := T2.out.be.size
  have hlt2 := lt_of_blk' T2.out.o
  have T3 : Hid (TBz w w3 b (.slice p l.length cap) (⟨b.c, bo0.hp, bo0.bk, bo0.inp, bo0.at_, bo0.out_, bo0.ck, bo0.sd, bo0.st, bo0.co, bo0.ft, bo0.wh⟩ : Bo) (.slice none 0 0) g l) := Lib.hid ⟨T2.out.call hb3, Joins.ownsRow_le hown (by omega), by omega⟩
  clear hown hb3 hg hz2 hlt2 R2 T2 a18'
  have o18 := (cell_of_row _ _ 18 _ _ _ T3.out.t.o).trans (show (boV (⟨b.c, bo0.hp, bo0.bk, bo0.inp, bo0.at_, bo0.out_, bo0.ck, bo0.sd, bo0.st, bo0.co, bo0.ft, bo0.wh⟩ : Bo) (.slice none 0 0))[18]? = some (.slice none 0 0) from rfl)
  have fz : w3.frozen? ⟨w.heap.size + 1 + 1, 18, none⟩ = false := by simp [World.frozen?, T3.out.t.o]
  go_upto_region 4 with fail
  have U0 : Hid (TBz w (w3.setCell ⟨w.heap.size + 1 + 1, 18, none⟩ (.slice (some ⟨g, 0, none⟩) l.length l.length)) b (.slice p l.length cap) (⟨b.c, bo0.hp, bo0.bk, bo0.inp, bo0.at_, bo0.out_, bo0.ck, bo0.sd, bo0.st, bo0.co, bo0.ft, bo0.wh⟩ : Bo) (.slice (some ⟨g, 0, none⟩) l.length l.length) g l) := Lib.hid (T3.out.set 18 _ rfl)
  clear o18 fz T3
  generalize w3.setCell ⟨w.heap.size + 1 + 1, 18, none⟩ (.slice (some ⟨g, 0, none⟩) l.length l.length) = X0 at *
  have ca := (cell_of_row _ _ 19 _ _ _ U0.out.t.a).trans (show (boV b (.slice p l.length cap))[19]? = some (.int .i64 b.hp) from rfl)
  have co := (cell_of_row _ _ 19 _ _ _ U0.out.t.o).trans (show (boV (⟨b.c, bo0.hp, bo0.bk, bo0.inp, bo0.at_, bo0.out_, bo0.ck, bo0.sd, bo0.st, bo0.co, bo0.ft, bo0.wh⟩ : Bo) (.slice (some ⟨g, 0, none⟩) l.length l.length))[19]? = some (.int .i64 0) from rfl)
  have fz : X0.frozen? ⟨w.heap.size + 1 + 1, 19, none⟩ = false := by simp [World.frozen?, U0.out.t.o]
  go_upto_region 5 with fail
  have U1 : Hid (TBz w (X0.setCell ⟨w.heap.size + 1 + 1, 19, none⟩ (.int .i64 b.hp)) b (.slice p l.length cap) (⟨b.c, b.hp, bo0.bk, bo0.inp, bo0.at_, bo0.out_, bo0.ck, bo0.sd, bo0.st, bo0.co, bo0.ft, bo0.wh⟩ : Bo) (.slice (some ⟨g, 0, none⟩) l.length l.length) g l) := Lib.hid (U0.out.set 19 _ rfl)
  clear ca co fz U0
  generalize X0.setCell ⟨w.heap.size + 1 + 1, 19, none⟩ (.int .i64 b.hp) = X1 at *
  have ca := (cell_of_row _ _ 20 _ _ _ U1.out.t.a).trans (show (boV b (.slice p l.length cap))[20]? = some (.int .i64 b.bk) from rfl)
  have co := (cell_of_row _ _ 20 _ _ _ U1.out.t.o).trans (show (boV (⟨b.c, b.hp, bo0.bk, bo0.inp, bo0.at_, bo0.out_, bo0.ck, bo0.sd, bo0.st, bo0.co, bo0.ft, bo0.wh⟩ : Bo) (.slice (some ⟨g, 0, none⟩) l.length l.length))[20]? = some (.int .i64 0) from rfl)
  have fz : X1.frozen? ⟨w.heap.size + 1 + 1, 20, none⟩ = false := by simp [World.frozen?, U1.out.t.o]
  go_upto_region 6 with fail
  have U2 : Hid (TBz w (X1.setCell ⟨w.heap.size + 1 + 1, 20, none⟩ (.int .i64 b.bk)) b (.slice p l.length cap) (⟨b.c, b.hp, b.bk, bo0.inp, bo0.at_, bo0.out_, bo0.ck, bo0.sd, bo0.st, bo0.co, bo0.ft, bo0.wh⟩ : Bo) (.slice (some ⟨g, 0, none⟩) l.length l.length) g l) := Lib.hid (U1.out.set 20 _ rfl)
  clear ca co fz U1
  generalize X1.setCell ⟨w.heap.size + 1 + 1, 20, none⟩ (.int .i64 b.bk) = X2 at *
  have ca := (cell_of_row _ _ 21 _ _ _ U2.out.t.a).trans (show (boV b (.slice p l.length cap))[21]? = some (.string b.inp) from rfl)
  have co := (cell_of_row _ _ 21 _ _ _ U2.out.t.o).trans (show (boV (⟨b.c, b.hp, b.bk, bo0.inp, bo0.at_, bo0.out_, bo0.ck, bo0.sd, bo0.st, bo0.co, bo0.ft, bo0.wh⟩ : Bo) (.slice (some ⟨g, 0, none⟩) l.length l.length))[21]? = some (.string ByteArray.empty) from rfl)
  have fz : X2.frozen? ⟨w.heap.size + 1 + 1, 21, none⟩ = false := by simp [World.frozen?, U2.out.t.o]
  go_upto_region 7 with fail
  have U3 : Hid (TBz w (X2.setCell ⟨w.heap.size + 1 + 1, 21, none⟩ (.string b.inp)) b (.slice p l.length cap) (⟨b.c, b.hp, b.bk, b.inp, bo0.at_, bo0.out_, bo0.ck, bo0.sd, bo0.st, bo0.co, bo0.ft, bo0.wh⟩ : Bo) (.slice (some ⟨g, 0, none⟩) l.length l.length) g l) := Lib.hid (U2.out.set 21 _ rfl)
  clear ca co fz U2
  generalize X2.setCell ⟨w.heap.size + 1 + 1, 21, none⟩ (.string b.inp) = X3 at *
  have ca := (cell_of_row _ _ 22 _ _ _ U3.out.t.a).trans (show (boV b (.slice p l.length cap))[22]? = some (.int .i64 b.at_) from rfl)
  have co := (cell_of_row _ _ 22 _ _ _ U3.out.t.o).trans (show (boV (⟨b.c, b.hp, b.bk, b.inp, bo0.at_, bo0.out_, bo0.ck, bo0.sd, bo0.st, bo0.co, bo0.ft, bo0.wh⟩ : Bo) (.slice (some ⟨g, 0, none⟩) l.length l.length))[22]? = some (.int .i64 0) from rfl)
  have fz : X3.frozen? ⟨w.heap.size + 1 + 1, 22, none⟩ = false := by simp [World.frozen?, U3.out.t.o]
  go_upto_region 8 with fail
  have U4 : Hid (TBz w (X3.setCell ⟨w.heap.size + 1 + 1, 22, none⟩ (.int .i64 b.at_)) b (.slice p l.length cap) (⟨b.c, b.hp, b.bk, b.inp, b.at_, bo0.out_, bo0.ck, bo0.sd, bo0.st, bo0.co, bo0.ft, bo0.wh⟩ : Bo) (.slice (some ⟨g, 0, none⟩) l.length l.length) g l) := Lib.hid (U3.out.set 22 _ rfl)
  clear ca co fz U3
  generalize X3.setCell ⟨w.heap.size + 1 + 1, 22, none⟩ (.int .i64 b.at_) = X4 at *
  have ca := (cell_of_row _ _ 23 _ _ _ U4.out.t.a).trans (show (boV b (.slice p l.length cap))[23]? = some (.string b.out_) from rfl)
  have co := (cell_of_row _ _ 23 _ _ _ U4.out.t.o).trans (show (boV (⟨b.c, b.hp, b.bk, b.inp, b.at_, bo0.out_, bo0.ck, bo0.sd, bo0.st, bo0.co, bo0.ft, bo0.wh⟩ : Bo) (.slice (some ⟨g, 0, none⟩) l.length l.length))[23]? = some (.string ByteArray.empty) from rfl)
  have fz : X4.frozen? ⟨w.heap.size + 1 + 1, 23, none⟩ = false := by simp [World.frozen?, U4.out.t.o]
  go_upto_region 9 with fail
  have U5 : Hid (TBz w (X4.setCell ⟨w.heap.size + 1 + 1, 23, none⟩ (.string b.out_)) b (.slice p l.length cap) (⟨b.c, b.hp, b.bk, b.inp, b.at_, b.out_, bo0.ck, bo0.sd, bo0.st, bo0.co, bo0.ft, bo0.wh⟩ : Bo) (.slice (some ⟨g, 0, none⟩) l.length l.length) g l) := Lib.hid (U4.out.set 23 _ rfl)
  clear ca co fz U4
  generalize X4.setCell ⟨w.heap.size + 1 + 1, 23, none⟩ (.string b.out_) = X5 at *
  have ca := (cell_of_row _ _ 24 _ _ _ U5.out.t.a).trans (show (boV b (.slice p l.length cap))[24]? = some (.int .i64 b.ck) from rfl)
  have co := (cell_of_row _ _ 24 _ _ _ U5.out.t.o).trans (show (boV (⟨b.c, b.hp, b.bk, b.inp, b.at_, b.out_, bo0.ck, bo0.sd, bo0.st, bo0.co, bo0.ft, bo0.wh⟩ : Bo) (.slice (some ⟨g, 0, none⟩) l.length l.length))[24]? = some (.int .i64 0) from rfl)
  have fz : X5.frozen? ⟨w.heap.size + 1 + 1, 24, none⟩ = false := by simp [World.frozen?, U5.out.t.o]
  go_upto_region 10 with fail
  have U6 : Hid (TBz w (X5.setCell ⟨w.heap.size + 1 + 1, 24, none⟩ (.int .i64 b.ck)) b (.slice p l.length cap) (⟨b.c, b.hp, b.bk, b.inp, b.at_, b.out_, b.ck, bo0.sd, bo0.st, bo0.co, bo0.ft, bo0.wh⟩ : Bo) (.slice (some ⟨g, 0, none⟩) l.length l.length) g l) := Lib.hid (U5.out.set 24 _ rfl)
  clear ca co fz U5
  generalize X5.setCell ⟨w.heap.size + 1 + 1, 24, none⟩ (.int .i64 b.ck) = X6 at *
  have ca := (cell_of_row _ _ 25 _ _ _ U6.out.t.a).trans (show (boV b (.slice p l.length cap))[25]? = some (.int .i64 b.sd) from rfl)
  have co := (cell_of_row _ _ 25 _ _ _ U6.out.t.o).trans (show (boV (⟨b.c, b.hp, b.bk, b.inp, b.at_, b.out_, b.ck, bo0.sd, bo0.st, bo0.co, bo0.ft, bo0.wh⟩ : Bo) (.slice (some ⟨g, 0, none⟩) l.length l.length))[25]? = some (.int .i64 0) from rfl)
  have fz : X6.frozen? ⟨w.heap.size + 1 + 1, 25, none⟩ = false := by simp [World.frozen?, U6.out.t.o]
  go_upto_region 11 with fail
  have U7 : Hid (TBz w (X6.setCell ⟨w.heap.size + 1 + 1, 25, none⟩ (.int .i64 b.sd)) b (.slice p l.length cap) (⟨b.c, b.hp, b.bk, b.inp, b.at_, b.out_, b.ck, b.sd, bo0.st, bo0.co, bo0.ft, bo0.wh⟩ : Bo) (.slice (some ⟨g, 0, none⟩) l.length l.length) g l) := Lib.hid (U6.out.set 25 _ rfl)
  clear ca co fz U6
  generalize X6.setCell ⟨w.heap.size + 1 + 1, 25, none⟩ (.int .i64 b.sd) = X7 at *
  have ca := (cell_of_row _ _ 26 _ _ _ U7.out.t.a).trans (show (boV b (.slice p l.length cap))[26]? = some (.int .i64 b.st) from rfl)
  have co := (cell_of_row _ _ 26 _ _ _ U7.out.t.o).trans (show (boV (⟨b.c, b.hp, b.bk, b.inp, b.at_, b.out_, b.ck, b.sd, bo0.st, bo0.co, bo0.ft, bo0.wh⟩ : Bo) (.slice (some ⟨g, 0, none⟩) l.length l.length))[26]? = some (.int .i64 0) from rfl)
  have fz : X7.frozen? ⟨w.heap.size + 1 + 1, 26, none⟩ = false := by simp [World.frozen?, U7.out.t.o]
  go_upto_region 12 with fail
  have U8 : Hid (TBz w (X7.setCell ⟨w.heap.size + 1 + 1, 26, none⟩ (.int .i64 b.st)) b (.slice p l.length cap) (⟨b.c, b.hp, b.bk, b.inp, b.at_, b.out_, b.ck, b.sd, b.st, bo0.co, bo0.ft, bo0.wh⟩ : Bo) (.slice (some ⟨g, 0, none⟩) l.length l.length) g l) := Lib.hid (U7.out.set 26 _ rfl)
  clear ca co fz U7
  generalize X7.setCell ⟨w.heap.size + 1 + 1, 26, none⟩ (.int .i64 b.st) = X8 at *
  have ca := (cell_of_row _ _ 27 _ _ _ U8.out.t.a).trans (show (boV b (.slice p l.length cap))[27]? = some (.int .i64 b.co) from rfl)
  have co := (cell_of_row _ _ 27 _ _ _ U8.out.t.o).trans (show (boV (⟨b.c, b.hp, b.bk, b.inp, b.at_, b.out_, b.ck, b.sd, b.st, bo0.co, bo0.ft, bo0.wh⟩ : Bo) (.slice (some ⟨g, 0, none⟩) l.length l.length))[27]? = some (.int .i64 0) from rfl)
  have fz : X8.frozen? ⟨w.heap.size + 1 + 1, 27, none⟩ = false := by simp [World.frozen?, U8.out.t.o]
  go_upto_region 13 with fail
  have U9 : Hid (TBz w (X8.setCell ⟨w.heap.size + 1 + 1, 27, none⟩ (.int .i64 b.co)) b (.slice p l.length cap) (⟨b.c, b.hp, b.bk, b.inp, b.at_, b.out_, b.ck, b.sd, b.st, b.co, bo0.ft, bo0.wh⟩ : Bo) (.slice (some ⟨g, 0, none⟩) l.length l.length) g l) := Lib.hid (U8.out.set 27 _ rfl)
  clear ca co fz U8
  generalize X8.setCell ⟨w.heap.size + 1 + 1, 27, none⟩ (.int .i64 b.co) = X9 at *
  have ca := (cell_of_row _ _ 28 _ _ _ U9.out.t.a).trans (show (boV b (.slice p l.length cap))[28]? = some (.int .i64 b.ft) from rfl)
  have co := (cell_of_row _ _ 28 _ _ _ U9.out.t.o).trans (show (boV (⟨b.c, b.hp, b.bk, b.inp, b.at_, b.out_, b.ck, b.sd, b.st, b.co, bo0.ft, bo0.wh⟩ : Bo) (.slice (some ⟨g, 0, none⟩) l.length l.length))[28]? = some (.int .i64 0) from rfl)
  have fz : X9.frozen? ⟨w.heap.size + 1 + 1, 28, none⟩ = false := by simp [World.frozen?, U9.out.t.o]
  go_upto_region 14 with fail
  have U10 : Hid (TBz w (X9.setCell ⟨w.heap.size + 1 + 1, 28, none⟩ (.int .i64 b.ft)) b (.slice p l.length cap) (⟨b.c, b.hp, b.bk, b.inp, b.at_, b.out_, b.ck, b.sd, b.st, b.co, b.ft, bo0.wh⟩ : Bo) (.slice (some ⟨g, 0, none⟩) l.length l.length) g l) := Lib.hid (U9.out.set 28 _ rfl)
  clear ca co fz U9
  generalize X9.setCell ⟨w.heap.size + 1 + 1, 28, none⟩ (.int .i64 b.ft) = X10 at *
  have ca := (cell_of_row _ _ 29 _ _ _ U10.out.t.a).trans (show (boV b (.slice p l.length cap))[29]? = some (.int .i64 b.wh) from rfl)
  have co := (cell_of_row _ _ 29 _ _ _ U10.out.t.o).trans (show (boV (⟨b.c, b.hp, b.bk, b.inp, b.at_, b.out_, b.ck, b.sd, b.st, b.co, b.ft, bo0.wh⟩ : Bo) (.slice (some ⟨g, 0, none⟩) l.length l.length))[29]? = some (.int .i64 0) from rfl)
  have fz : X10.frozen? ⟨w.heap.size + 1 + 1, 29, none⟩ = false := by simp [World.frozen?, U10.out.t.o]
  go_upto_region 15 with fail
  have U11 : Hid (TBz w (X10.setCell ⟨w.heap.size + 1 + 1, 29, none⟩ (.int .i64 b.wh)) b (.slice p l.length cap) b (.slice (some ⟨g, 0, none⟩) l.length l.length) g l) := Lib.hid (U10.out.set 29 _ rfl)
  clear ca co fz U10
  generalize X10.setCell ⟨w.heap.size + 1 + 1, 29, none⟩ (.int .i64 b.wh) = X11 at *
  have T5 := U11
  clear U11
  have hg2 := T5.out.n
  have K5 := Lib.hid T5.out.k
  have R5 := Lib.hid T5.out.t.o
  have Z5 := Lib.hid T5.out.t.r
  have B5 := Lib.hid T5.out.t.be
  have hO5 := Lib.hid (boV_one b (some ⟨g, 0, none⟩) l.length l.length)
  have sz := boV_size b (.slice (some ⟨g, 0, none⟩) l.length l.length)
  have HG := Lib.hid hg2
  clear T5 hg2
  generalize hV2 : boV b (.slice (some ⟨g, 0, none⟩) l.length l.length) = V2 at *
  have HV2 := Lib.hid hV2
  clear hV2
  have SZ := Lib.hid sz
  clear sz
  have Y5 := Lib.hid (setRow_heap _ _ _ V2 _ _ Z5.out)
  have D5 := Lib.hid (Go.below_setRow B5.out (by omega : w.heap.size ≤ w.heap.size + 1) V2)
  have O5 := Lib.hid (own_blockB K5.out (setRow_far _ (w.heap.size + 1) g V2 (by have := HG.out; omega)))
  go_wp2_with (first | (refine wpList_load_row rfl 36 (.tmp 3) rfl (w.heap.size + 1 + 1) rfl 36 V2 (0, 0) _ R5.out Tryz.underlying36 rfl (by rw [SZ.out]; kernel_rfl) ?_) | (refine wpList_store_row rfl 36 (.tmp 2) (.tmp 45) rfl (w.heap.size + 1) V2 rfl rfl 36 _ Z5.out (by rw [SZ.out]; kernel_rfl) (by rw [SZ.out]; rfl) hO5.out ?_))
  refine bodyPost_ret (v := .agg V2) (by exact results_cell_row Tryz.results7 _ _ (w.heap.size + 1) 36 V2 (0, 0) _ rfl Y5.out Tryz.underlying36 rfl (by rw [SZ.out]; kernel_rfl)) (by rfl) ⟨g, by rw [HV2.out], O5.out, D5.out⟩
set_option maxRecDepth 100000 in
set_option maxHeartbeats 4000000 in
/-- laws.szBox -/
theorem szBoxC (b : Bo) (p : Option Addr) (cap : Nat) (l : List Pg) (left : Int) (w : World) (hr : Rd w p l) (hd : Fits l) (h1 : b.inp.size ≤ maxLen) (h2 : b.out_.size ≤ maxLen) (hl : 0 ≤ left) (hl2 : left ≤ 1048576) :
    Calls Tryz.prog 5 #[.agg (boV b (.slice p l.length cap)), .int .i64 left] w fun e w' => ∃ r : Int, e = .returned (.int .i64 r) ∧ Hid (-1 ≤ r ∧ r ≤ left ∧ (0 ≤ r → Small l ∧ b.inp.size ≤ 1048576 ∧ b.out_.size ≤ 1048576)) ∧ Below w.heap.size w w' := by
  have L0 : Below w.heap.size w (w.alloc (.cells (boV b (.slice p l.length cap)) 29)) := (Below.refl _ _).alloc (Nat.le_refl _) _
  have C := Lib.hid (szMemoryC p cap l left _ (hr.below L0) hd hl hl2)
  have n1 := heap_alloc_new w (.cells (boV b (.slice p l.length cap)) 29)
  have a18 := (cell_of_row _ _ 18 _ _ _ n1).trans (show (boV b (.slice p l.length cap))[18]? = some (.slice p l.length cap) from rfl)
  have a21 := (cell_of_row _ _ 21 _ _ _ n1).trans (show (boV b (.slice p l.length cap))[21]? = some (.string b.inp) from rfl)
  have a23 := (cell_of_row _ _ 23 _ _ _ n1).trans (show (boV b (.slice p l.length cap))[23]? = some (.string b.out_) from rfl)
  have m1 : b.inp.size ≤ 9223372036854775807 := h1
  have m2 : b.out_.size ≤ 9223372036854775807 := h2
  have A21 := Lib.hid a21; have A23 := Lib.hid a23; have L0' := Lib.hid L0
  clear hr n1 h1 h2 L0
  generalize boV b (.slice p l.length cap) = V at *
  clear a21 a23
  go_enter Tryz.func5, Tryz.ntmps5
  go_wp2_with fail
  refine (C.out).mono ?_
  rintro e w1 ⟨r, rfl, HQ, b1⟩
  have L1 := Lib.hid (bthen L0'.out b1)
  have a21 := (b1.cell (p := ⟨w.heap.size, 21, none⟩) (lt_of_cellE A21.out)).trans A21.out
  have a23 := (b1.cell (p := ⟨w.heap.size, 23, none⟩) (lt_of_cellE A23.out)).trans A23.out
  obtain ⟨hq1, hq2, hq3⟩ := HQ.out
  have HQ3 := Lib.hid hq3
  clear b1 a18 C HQ hq3 A21 A23 L0'
  by_cases r0 : r < 0
  · go_wp2
    go_ret
    exact ⟨_, rfl, Lib.hid ⟨by omega, by omega, fun h => absurd h (by omega)⟩, L1.out⟩
  have e1 : IntKind.i64.wrap (r - (b.inp.size : Int)) = r - b.inp.size := IntWalk.i64_in _ (by omega)
  by_cases r1 : r - (b.inp.size : Int) < 0
  · go_wp2
    go_ret
    exact ⟨_, rfl, Lib.hid ⟨by omega, by omega, fun h => absurd h (by omega)⟩, L1.out⟩
  have e2 : IntKind.i64.wrap (r - (b.inp.size : Int) - (b.out_.size : Int)) = r - b.inp.size - b.out_.size := IntWalk.i64_in _ (by omega)
  by_cases r2 : r - (b.inp.size : Int) - (b.out_.size : Int) < 0
  · go_wp2
    go_ret
    exact ⟨_, rfl, Lib.hid ⟨by omega, by omega, fun h => absurd h (by omega)⟩, L1.out⟩
  go_wp2
  go_ret
  exact ⟨_, rfl, Lib.hid ⟨by omega, by omega, fun h => ⟨HQ3.out (by omega), by omega, by omega⟩⟩, L1.out⟩
set_option maxRecDepth 100000 in
set_option maxHeartbeats 4000000 in
/-- laws.eqBox of what is the same -/
theorem eqBoxC (b : Bo) (p q : Option Addr) (c1 c2 : Nat) (l : List Pg) (w : World) (hn : l.length ≤ 9223372036854775807) (hr : Rd w p l) (hq : Rd w q l) :
    Calls Tryz.prog 9 #[.agg (boV b (.slice p l.length c1)), .agg (boV b (.slice q l.length c2))] w fun e w' => e = .returned (.bool true) ∧ Below w.heap.size w w' := by
  obtain ⟨n1, n2, n3⟩ := two_new w (boV b (.slice p l.length c1)) (boV b (.slice q l.length c2)) 36
  have CA := Lib.hid (eqCpuC b.c)
  have R1 := Lib.hid (box_range n1); have R2 := Lib.hid (box_range n2)
  have HR := Lib.hid (hr.below n3); have HQ := Lib.hid (hq.below n3)
  have N1 := Lib.hid n1; have N2 := Lib.hid n2; have N3 := Lib.hid n3
  generalize hV1 : boV b (.slice p l.length c1) = V1 at *
  generalize hV2 : boV b (.slice q l.length c2) = V2 at *
  have HV1 := Lib.hid hV1; have HV2 := Lib.hid hV2
  clear n1 n2 n3 hr hq hV1 hV2
  go_enter Tryz.func9, Tryz.ntmps9
  go_wp2_with (first | (refine wpList_load_mid rfl 31 (.tmp 5) rfl w.heap.size 0 rfl (cpV b.c).toList _ R1.out Tryz.underlying31 rfl (by kernel_rfl) ?_) | (refine wpList_load_mid rfl 31 (.tmp 7) rfl (w.heap.size + 1) 0 rfl (cpV b.c).toList _ R2.out Tryz.underlying31 rfl (by kernel_rfl) ?_))
  refine (CA.out _).mono ?_
  rintro e w1 ⟨rfl, hb⟩
  have N1' := Lib.hid ((hb.block _ (lt_of_blk' N1.out)).trans N1.out)
  have N2' := Lib.hid ((hb.block _ (lt_of_blk' N2.out)).trans N2.out)
  have L1 := Lib.hid (N3.out.trans (hb.mono N3.out.size))
  have HR1 := Lib.hid (HR.out.below hb); have HQ1 := Lib.hid (HQ.out.below hb)
  have a18 := (cell_of_row _ _ 18 _ _ _ N1'.out).trans (show V1[18]? = some (.slice p l.length c1) by rw [← HV1.out]; rfl)
  have b18 := (cell_of_row _ _ 18 _ _ _ N2'.out).trans (show V2[18]? = some (.slice q l.length c2) by rw [← HV2.out]; rfl)
  clear hb N1 N2 N3 HR HQ CA R1 R2
  go_wp2_with fail
  refine (eqMemoryC p q c1 c2 l w1 hn HR1.out HQ1.out).mono ?_
  rintro e w2 ⟨rfl, hb⟩
  have n1 := (hb.block _ (lt_of_blk' N1'.out)).trans N1'.out
  have n2 := (hb.block _ (lt_of_blk' N2'.out)).trans N2'.out
  have L2 := Lib.hid (L1.out.trans (hb.mono L1.out.size))
  clear hb a18 b18 N1' N2' HR1 HQ1 L1
  have a19 := (cell_of_row _ _ 19 _ _ _ n1).trans (show V1[19]? = some (.int .i64 b.hp) by rw [← HV1.out]; rfl)
  have b19 := (cell_of_row _ _ 19 _ _ _ n2).trans (show V2[19]? = some (.int .i64 b.hp) by rw [← HV2.out]; rfl)
  have a20 := (cell_of_row _ _ 20 _ _ _ n1).trans (show V1[20]? = some (.int .i64 b.bk) by rw [← HV1.out]; rfl)
  have b20 := (cell_of_row _ _ 20 _ _ _ n2).trans (show V2[20]? = some (.int .i64 b.bk) by rw [← HV2.out]; rfl)
  have a21 := (cell_of_row _ _ 21 _ _ _ n1).trans (show V1[21]? = some (.string b.inp) by rw [← HV1.out]; rfl)
  have b21 := (cell_of_row _ _ 21 _ _ _ n2).trans (show V2[21]? = some (.string b.inp) by rw [← HV2.out]; rfl)
  have a22 := (cell_of_row _ _ 22 _ _ _ n1).trans (show V1[22]? = some (.int .i64 b.at_) by rw [← HV1.out]; rfl)
  have b22 := (cell_of_row _ _ 22 _ _ _ n2).trans (show V2[22]? = some (.int .i64 b.at_) by rw [← HV2.out]; rfl)
  have a23 := (cell_of_row _ _ 23 _ _ _ n1).trans (show V1[23]? = some (.string b.out_) by rw [← HV1.out]; rfl)
  have b23 := (cell_of_row _ _ 23 _ _ _ n2).trans (show V2[23]? = some (.string b.out_) by rw [← HV2.out]; rfl)
  have a24 := (cell_of_row _ _ 24 _ _ _ n1).trans (show V1[24]? = some (.int .i64 b.ck) by rw [← HV1.out]; rfl)
  have b24 := (cell_of_row _ _ 24 _ _ _ n2).trans (show V2[24]? = some (.int .i64 b.ck) by rw [← HV2.out]; rfl)
  have a25 := (cell_of_row _ _ 25 _ _ _ n1).trans (show V1[25]? = some (.int .i64 b.sd) by rw [← HV1.out]; rfl)
  have b25 := (cell_of_row _ _ 25 _ _ _ n2).trans (show V2[25]? = some (.int .i64 b.sd) by rw [← HV2.out]; rfl)
  have a26 := (cell_of_row _ _ 26 _ _ _ n1).trans (show V1[26]? = some (.int .i64 b.st) by rw [← HV1.out]; rfl)
  have b26 := (cell_of_row _ _ 26 _ _ _ n2).trans (show V2[26]? = some (.int .i64 b.st) by rw [← HV2.out]; rfl)
  have a27 := (cell_of_row _ _ 27 _ _ _ n1).trans (show V1[27]? = some (.int .i64 b.co) by rw [← HV1.out]; rfl)
  have b27 := (cell_of_row _ _ 27 _ _ _ n2).trans (show V2[27]? = some (.int .i64 b.co) by rw [← HV2.out]; rfl)
  have a28 := (cell_of_row _ _ 28 _ _ _ n1).trans (show V1[28]? = some (.int .i64 b.ft) by rw [← HV1.out]; rfl)
  have b28 := (cell_of_row _ _ 28 _ _ _ n2).trans (show V2[28]? = some (.int .i64 b.ft) by rw [← HV2.out]; rfl)
  have a29 := (cell_of_row _ _ 29 _ _ _ n1).trans (show V1[29]? = some (.int .i64 b.wh) by rw [← HV1.out]; rfl)
  have b29 := (cell_of_row _ _ 29 _ _ _ n2).trans (show V2[29]? = some (.int .i64 b.wh) by rw [← HV2.out]; rfl)
  clear n1 n2
  go_wp2
  go_ret
  exact ⟨rfl, L2.out⟩
end Go.Proofs.YtbkgmpkednkbcaaGreatDoor
