/-
  The walk of laws.FnNames, a theorem a way, out of what the functions that it calls do; no condition but those in each head.
-/
import Derived.Test.YtdfmchknpiodkaaDoorMathNames
import Derived.Deep.RegionWith
import Derived.Deep.RegionHeld3
namespace Go.Proofs.YtdfmchknpiodkaaDoor
open Go.RowKit
set_option linter.unusedVariables false
/-- what the functions that laws.FnNames calls do, in all worlds behind w -/
structure NamesK (w : World) (S0 S1 : Value) (k0 k1 k3 m0 m1 m2 m3 m4 sI rE v : Int) (tb : Bool) (o f gr : Int) (y : Bool) (r c gv gc : Int) (X Y Z : ByteArray) : Prop where
  A0 : ∀ W, Below w.heap.size w W → Calls Tryd.prog 12 #[S1, .int .i64 0, .int .i64 44] W fun e W' => e = .returned (.int .i64 k0) ∧ Below W.heap.size W W'
  A1 : ∀ W, Below w.heap.size w W → Calls Tryd.prog 12 #[S1, .int .i64 1, .int .i64 16] W fun e W' => e = .returned (.int .i64 k1) ∧ Below W.heap.size W W'
  SZ : ∀ W, Below w.heap.size w W → Calls Tryd.prog 13 #[S1, .int .i64 2] W fun e W' => e = .returned (.int .i64 sI) ∧ Below W.heap.size W W'
  A3 : ∀ W, Below w.heap.size w W → Calls Tryd.prog 12 #[S1, .int .i64 3, .int .i64 16] W fun e W' => e = .returned (.int .i64 k3) ∧ Below W.heap.size W W'
  B0 : ∀ W, Below w.heap.size w W → Calls Tryd.prog 12 #[S0, .int .i64 0, .int .i64 3] W fun e W' => e = .returned (.int .i64 m0) ∧ Below W.heap.size W W'
  B1 : ∀ W, Below w.heap.size w W → Calls Tryd.prog 12 #[S0, .int .i64 1, .int .i64 4] W fun e W' => e = .returned (.int .i64 m1) ∧ Below W.heap.size W W'
  B2 : ∀ W, Below w.heap.size w W → Calls Tryd.prog 12 #[S0, .int .i64 2, .int .i64 2] W fun e W' => e = .returned (.int .i64 m2) ∧ Below W.heap.size W W'
  B3 : ∀ W, Below w.heap.size w W → Calls Tryd.prog 12 #[S0, .int .i64 3, .int .i64 256] W fun e W' => e = .returned (.int .i64 m3) ∧ Below W.heap.size W W'
  B4 : ∀ W, Below w.heap.size w W → Calls Tryd.prog 12 #[S0, .int .i64 4, .int .i64 8] W fun e W' => e = .returned (.int .i64 m4) ∧ Below W.heap.size W W'
  RN : ∀ W, Below w.heap.size w W → Calls Tryd.prog 15 #[.int .i64 rE, .int .i64 sI] W fun e W' => e = .returned (.string X) ∧ W = W'
  RO : ∀ W, Below w.heap.size w W → Calls Tryd.prog 14 #[.string X] W fun e W' => e = .returned (.tuple #[.int .i64 rE, .int .i64 sI, .int .i64 0]) ∧ Below W.heap.size W W'
  CI : ∀ W, Below w.heap.size w W → Calls Tryd.prog 16 #[.int .i64 (1 + k0)] W fun e W' => e = .returned (.tuple #[.int .i64 v, .int .i64 0]) ∧ W = W'
  CS : ∀ W, Below w.heap.size w W → Calls Tryd.prog 17 #[.int .i64 (1 + k0)] W fun e W' => e = .returned (.tuple #[.int .i64 v, .int .i64 0]) ∧ W = W'
  HI : ∀ W, Below w.heap.size w W → Calls Tryd.prog 18 #[.bool tb, .int .i64 m3] W fun e W' => e = .returned (.tuple #[.agg #[.int .i64 o, .int .i64 f, .int .i64 gr, .bool y, .int .i64 r], .int .i64 c]) ∧ Below W.heap.size W W'
  HS : ∀ W, Below w.heap.size w W → Calls Tryd.prog 19 #[.bool tb, .int .i64 m3] W fun e W' => e = .returned (.tuple #[.agg #[.int .i64 o, .int .i64 f, .int .i64 gr, .bool y, .int .i64 r], .int .i64 c]) ∧ Below W.heap.size W W'
  GI : 0 < gr → ∀ W, Below w.heap.size w W → Calls Tryd.prog 20 #[.int .i64 gr, .int .i64 m4] W fun e W' => e = .returned (.tuple #[.int .i64 gv, .int .i64 gc]) ∧ W = W'
  GS : 0 < gr → ∀ W, Below w.heap.size w W → Calls Tryd.prog 21 #[.int .i64 gr, .int .i64 m4] W fun e W' => e = .returned (.tuple #[.int .i64 gv, .int .i64 gc]) ∧ Below W.heap.size W W'
  OI : ∀ W, Below w.heap.size w W → Calls Tryd.prog 23 #[.int .i64 (1 + k0)] W fun e W' => e = .returned (.string Y) ∧ W = W'
  OF : ∀ W, Below w.heap.size w W → Calls Tryd.prog 22 #[.string Y] W fun e W' => e = .returned (.int .i64 (1 + k0)) ∧ Below W.heap.size W W'
  OS : ∀ W, Below w.heap.size w W → Calls Tryd.prog 24 #[.int .i64 (1 + k0)] W fun e W' => e = .returned (.string Y) ∧ Below W.heap.size W W'
  DI : ∀ W, Below w.heap.size w W → Calls Tryd.prog 26 #[.int .i64 k1] W fun e W' => e = .returned (.string Z) ∧ W = W'
  DF : ∀ W, Below w.heap.size w W → Calls Tryd.prog 25 #[.string Z] W fun e W' => e = .returned (.int .i64 k1) ∧ Below W.heap.size W W'
  DS : ∀ W, Below w.heap.size w W → Calls Tryd.prog 27 #[.int .i64 k1] W fun e W' => e = .returned (.string Z) ∧ Below W.heap.size W W'
theorem cell_row5 {W : World} {b : Nat} {V : Array Value} {t : TypeId} (h : W.heap[b]? = some (.cells V t (0, 0))) (i : Nat) : W.cell? ⟨b, i, none⟩ = V[i]? := cell_of_row W b i V t (0, 0) h
theorem below_dr {w W : World} (h : Below w.heap.size w W) : Below w.heap.size w W.drew := Below.drew h
set_option maxHeartbeats 4000000 in
set_option maxRecDepth 100000 in
theorem namesAN (a0 a1 : Option Addr) (n0 c0 n1 c1 : Nat) (w : World) (k0 k1 k3 m0 m1 m2 m3 m4 sI v : Int) (tb : Bool) (o f gr : Int) (y : Bool) (r c gv gc : Int) (X Y Z : ByteArray) (h0 : (n0 : Int) ≤ 1048576) (h1 : (n1 : Int) ≤ 1048576)
    (p0 : 0 ≤ k0) (p1 : k0 ≤ 43) (p2 : 0 ≤ m1) (p3 : m1 ≤ 3) (ht : (m2 == 1) = tb) (hs : (sI == 1) = false) (hc : (c == 0) = false)
    (K : Hid (NamesK w (.slice a0 n0 c0) (.slice a1 n1 c1) k0 k1 k3 m0 m1 m2 m3 m4 sI k3 v tb o f gr y r c gv gc X Y Z)) :
    Calls Tryd.prog 3 #[.slice a0 n0 c0, .slice a1 n1 c1] w fun e w' => e = .returned (.bool true) ∧ Below w.heap.size w w' := by
  have L0 := Lib.hid (Below.refl w.heap.size w)
  go_enter Tryd.func3, Tryd.ntmps3
  go_wp2_with fail
  refine (K.out.A0 _ L0.out).mono ?_
  rintro e w1 ⟨rfl, b1⟩
  have L1 := Lib.hid (L0.out.trans (b1.mono L0.out.size))
  clear b1
  go_wp2_with fail
  refine (K.out.A1 _ L1.out).mono ?_
  rintro e w2 ⟨rfl, b2⟩
  have L2 := Lib.hid (L1.out.trans (b2.mono L1.out.size))
  clear b2
  go_wp2_with fail
  refine (K.out.SZ _ L2.out).mono ?_
  rintro e w3 ⟨rfl, b3⟩
  have L3 := Lib.hid (L2.out.trans (b3.mono L2.out.size))
  clear b3
  go_wp2_with fail
  refine (K.out.A3 _ L3.out).mono ?_
  rintro e w4 ⟨rfl, b4⟩
  have L4 := Lib.hid (L3.out.trans (b4.mono L3.out.size))
  clear b4
  go_wp2_with fail
  refine (K.out.RN _ L4.out).mono ?_
  rintro e w5 ⟨rfl, rfl⟩
  go_wp2_with fail
  refine (K.out.RO _ L4.out).mono ?_
  rintro e w6 ⟨rfl, b6⟩
  have L6 := Lib.hid (L4.out.trans (b6.mono L4.out.size))
  clear b6
  go_wp2_with fail
  refine (K.out.CI _ L6.out).mono ?_
  rintro e w7 ⟨rfl, rfl⟩
  go_wp2_with fail
  refine (K.out.CS _ L6.out).mono ?_
  rintro e w8 ⟨rfl, rfl⟩
  go_wp2_with fail
  refine (K.out.B2 _ L6.out).mono ?_
  rintro e w9 ⟨rfl, b9⟩
  have L9 := Lib.hid (L6.out.trans (b9.mono L6.out.size))
  clear b9
  go_wp2_with fail
  refine (K.out.B3 _ L9.out).mono ?_
  rintro e w10 ⟨rfl, b10⟩
  have L10 := Lib.hid (L9.out.trans (b10.mono L9.out.size))
  clear b10
  go_wp2_with fail
  refine (K.out.HI _ L10.out).mono ?_
  rintro e w11 ⟨rfl, b11⟩
  have L11 := Lib.hid (L10.out.trans (b11.mono L10.out.size))
  clear b11
  have La := Lib.hid (L11.out.alloc L11.out.size (.cells #[.int .i64 o, .int .i64 f, .int .i64 gr, .bool y, .int .i64 r] 31))
  have za := Lib.hid (heap_alloc_new w11 (.cells #[.int .i64 o, .int .i64 f, .int .i64 gr, .bool y, .int .i64 r] 31))
  go_wp2_with fail
  refine (K.out.B2 _ La.out).mono ?_
  rintro e w12 ⟨rfl, b12⟩
  have L12 := Lib.hid (La.out.trans (b12.mono La.out.size))
  have za_12 := Lib.hid ((b12.block _ (lt_of_blockR za.out)).trans za.out)
  clear b12
  go_wp2_with fail
  refine (K.out.B3 _ L12.out).mono ?_
  rintro e w13 ⟨rfl, b13⟩
  have L13 := Lib.hid (L12.out.trans (b13.mono L12.out.size))
  have za_13 := Lib.hid ((b13.block _ (lt_of_blockR za_12.out)).trans za_12.out)
  clear b13
  go_wp2_with fail
  refine (K.out.HS _ L13.out).mono ?_
  rintro e w14 ⟨rfl, b14⟩
  have L14 := Lib.hid (L13.out.trans (b14.mono L13.out.size))
  have za_14 := Lib.hid ((b14.block _ (lt_of_blockR za_13.out)).trans za_13.out)
  clear b14
  have Lb := Lib.hid (L14.out.alloc L14.out.size (.cells #[.int .i64 o, .int .i64 f, .int .i64 gr, .bool y, .int .i64 r] 31))
  have zb := Lib.hid ((Below.heap_alloc w14 (.cells #[.int .i64 o, .int .i64 f, .int .i64 gr, .bool y, .int .i64 r] 31) _ (lt_of_blockR za_14.out)).trans za_14.out)
  have q0 : (w14.alloc (.cells #[.int .i64 o, .int .i64 f, .int .i64 gr, .bool y, .int .i64 r] 31)).cell? ⟨w11.heap.size, 0, none⟩ = some (.int .i64 o) := cell_row5 zb.out 0
  have q1 : (w14.alloc (.cells #[.int .i64 o, .int .i64 f, .int .i64 gr, .bool y, .int .i64 r] 31)).cell? ⟨w11.heap.size, 1, none⟩ = some (.int .i64 f) := cell_row5 zb.out 1
  have q2 : (w14.alloc (.cells #[.int .i64 o, .int .i64 f, .int .i64 gr, .bool y, .int .i64 r] 31)).cell? ⟨w11.heap.size, 2, none⟩ = some (.int .i64 gr) := cell_row5 zb.out 2
  have q3 : (w14.alloc (.cells #[.int .i64 o, .int .i64 f, .int .i64 gr, .bool y, .int .i64 r] 31)).cell? ⟨w11.heap.size, 3, none⟩ = some (.bool y) := cell_row5 zb.out 3
  have q4 : (w14.alloc (.cells #[.int .i64 o, .int .i64 f, .int .i64 gr, .bool y, .int .i64 r] 31)).cell? ⟨w11.heap.size, 4, none⟩ = some (.int .i64 r) := cell_row5 zb.out 4
  go_wp2_with fail
  refine (K.out.OI _ Lb.out).mono ?_
  rintro e w15 ⟨rfl, rfl⟩
  go_wp2_with fail
  refine (K.out.OF _ Lb.out).mono ?_
  rintro e w16 ⟨rfl, b16⟩
  have L16 := Lib.hid (Lb.out.trans (b16.mono Lb.out.size))
  have zb_16 := Lib.hid ((b16.block _ (lt_of_blockR zb.out)).trans zb.out)
  clear b16
  go_wp2_with fail
  refine (K.out.OI _ L16.out).mono ?_
  rintro e w17 ⟨rfl, rfl⟩
  go_wp2_with fail
  refine (K.out.OS _ L16.out).mono ?_
  rintro e w18 ⟨rfl, b18⟩
  have L18 := Lib.hid (L16.out.trans (b18.mono L16.out.size))
  have zb_18 := Lib.hid ((b18.block _ (lt_of_blockR zb_16.out)).trans zb_16.out)
  clear b18
  go_wp2_with fail
  refine (K.out.DI _ L18.out).mono ?_
  rintro e w19 ⟨rfl, rfl⟩
  go_wp2_with fail
  refine (K.out.DF _ L18.out).mono ?_
  rintro e w20 ⟨rfl, b20⟩
  have L20 := Lib.hid (L18.out.trans (b20.mono L18.out.size))
  have zb_20 := Lib.hid ((b20.block _ (lt_of_blockR zb_18.out)).trans zb_18.out)
  clear b20
  go_wp2_with fail
  refine (K.out.DI _ L20.out).mono ?_
  rintro e w21 ⟨rfl, rfl⟩
  go_wp2_with fail
  refine (K.out.DS _ L20.out).mono ?_
  rintro e w22 ⟨rfl, b22⟩
  have L22 := Lib.hid (L20.out.trans (b22.mono L20.out.size))
  have zb_22 := Lib.hid ((b22.block _ (lt_of_blockR zb_20.out)).trans zb_20.out)
  clear b22
  go_wp2
  go_ret
  exact ⟨rfl, L22.out⟩
set_option maxHeartbeats 4000000 in
set_option maxRecDepth 100000 in
theorem namesAZ (a0 a1 : Option Addr) (n0 c0 n1 c1 : Nat) (w : World) (k0 k1 k3 m0 m1 m2 m3 m4 sI v : Int) (tb : Bool) (o f gr : Int) (y : Bool) (r c gv gc : Int) (X Y Z : ByteArray) (h0 : (n0 : Int) ≤ 1048576) (h1 : (n1 : Int) ≤ 1048576)
    (p0 : 0 ≤ k0) (p1 : k0 ≤ 43) (p2 : 0 ≤ m1) (p3 : m1 ≤ 3) (ht : (m2 == 1) = tb) (hs : (sI == 1) = false) (hc : (c == 0) = true) (hgr : decide (0 < gr) = false)
    (K : Hid (NamesK w (.slice a0 n0 c0) (.slice a1 n1 c1) k0 k1 k3 m0 m1 m2 m3 m4 sI k3 v tb o f gr y r c gv gc X Y Z)) :
    Calls Tryd.prog 3 #[.slice a0 n0 c0, .slice a1 n1 c1] w fun e w' => e = .returned (.bool true) ∧ Below w.heap.size w w' := by
  have L0 := Lib.hid (Below.refl w.heap.size w)
  go_enter Tryd.func3, Tryd.ntmps3
  go_wp2_with fail
  refine (K.out.A0 _ L0.out).mono ?_
  rintro e w1 ⟨rfl, b1⟩
  have L1 := Lib.hid (L0.out.trans (b1.mono L0.out.size))
  clear b1
  go_wp2_with fail
  refine (K.out.A1 _ L1.out).mono ?_
  rintro e w2 ⟨rfl, b2⟩
  have L2 := Lib.hid (L1.out.trans (b2.mono L1.out.size))
  clear b2
  go_wp2_with fail
  refine (K.out.SZ _ L2.out).mono ?_
  rintro e w3 ⟨rfl, b3⟩
  have L3 := Lib.hid (L2.out.trans (b3.mono L2.out.size))
  clear b3
  go_wp2_with fail
  refine (K.out.A3 _ L3.out).mono ?_
  rintro e w4 ⟨rfl, b4⟩
  have L4 := Lib.hid (L3.out.trans (b4.mono L3.out.size))
  clear b4
  go_wp2_with fail
  refine (K.out.RN _ L4.out).mono ?_
  rintro e w5 ⟨rfl, rfl⟩
  go_wp2_with fail
  refine (K.out.RO _ L4.out).mono ?_
  rintro e w6 ⟨rfl, b6⟩
  have L6 := Lib.hid (L4.out.trans (b6.mono L4.out.size))
  clear b6
  go_wp2_with fail
  refine (K.out.CI _ L6.out).mono ?_
  rintro e w7 ⟨rfl, rfl⟩
  go_wp2_with fail
  refine (K.out.CS _ L6.out).mono ?_
  rintro e w8 ⟨rfl, rfl⟩
  go_wp2_with fail
  refine (K.out.B2 _ L6.out).mono ?_
  rintro e w9 ⟨rfl, b9⟩
  have L9 := Lib.hid (L6.out.trans (b9.mono L6.out.size))
  clear b9
  go_wp2_with fail
  refine (K.out.B3 _ L9.out).mono ?_
  rintro e w10 ⟨rfl, b10⟩
  have L10 := Lib.hid (L9.out.trans (b10.mono L9.out.size))
  clear b10
  go_wp2_with fail
  refine (K.out.HI _ L10.out).mono ?_
  rintro e w11 ⟨rfl, b11⟩
  have L11 := Lib.hid (L10.out.trans (b11.mono L10.out.size))
  clear b11
  have La := Lib.hid (L11.out.alloc L11.out.size (.cells #[.int .i64 o, .int .i64 f, .int .i64 gr, .bool y, .int .i64 r] 31))
  have za := Lib.hid (heap_alloc_new w11 (.cells #[.int .i64 o, .int .i64 f, .int .i64 gr, .bool y, .int .i64 r] 31))
  go_wp2_with fail
  refine (K.out.B2 _ La.out).mono ?_
  rintro e w12 ⟨rfl, b12⟩
  have L12 := Lib.hid (La.out.trans (b12.mono La.out.size))
  have za_12 := Lib.hid ((b12.block _ (lt_of_blockR za.out)).trans za.out)
  clear b12
  go_wp2_with fail
  refine (K.out.B3 _ L12.out).mono ?_
  rintro e w13 ⟨rfl, b13⟩
  have L13 := Lib.hid (L12.out.trans (b13.mono L12.out.size))
  have za_13 := Lib.hid ((b13.block _ (lt_of_blockR za_12.out)).trans za_12.out)
  clear b13
  go_wp2_with fail
  refine (K.out.HS _ L13.out).mono ?_
  rintro e w14 ⟨rfl, b14⟩
  have L14 := Lib.hid (L13.out.trans (b14.mono L13.out.size))
  have za_14 := Lib.hid ((b14.block _ (lt_of_blockR za_13.out)).trans za_13.out)
  clear b14
  have Lb := Lib.hid (L14.out.alloc L14.out.size (.cells #[.int .i64 o, .int .i64 f, .int .i64 gr, .bool y, .int .i64 r] 31))
  have zb := Lib.hid ((Below.heap_alloc w14 (.cells #[.int .i64 o, .int .i64 f, .int .i64 gr, .bool y, .int .i64 r] 31) _ (lt_of_blockR za_14.out)).trans za_14.out)
  have q0 : (w14.alloc (.cells #[.int .i64 o, .int .i64 f, .int .i64 gr, .bool y, .int .i64 r] 31)).cell? ⟨w11.heap.size, 0, none⟩ = some (.int .i64 o) := cell_row5 zb.out 0
  have q1 : (w14.alloc (.cells #[.int .i64 o, .int .i64 f, .int .i64 gr, .bool y, .int .i64 r] 31)).cell? ⟨w11.heap.size, 1, none⟩ = some (.int .i64 f) := cell_row5 zb.out 1
  have q2 : (w14.alloc (.cells #[.int .i64 o, .int .i64 f, .int .i64 gr, .bool y, .int .i64 r] 31)).cell? ⟨w11.heap.size, 2, none⟩ = some (.int .i64 gr) := cell_row5 zb.out 2
  have q3 : (w14.alloc (.cells #[.int .i64 o, .int .i64 f, .int .i64 gr, .bool y, .int .i64 r] 31)).cell? ⟨w11.heap.size, 3, none⟩ = some (.bool y) := cell_row5 zb.out 3
  have q4 : (w14.alloc (.cells #[.int .i64 o, .int .i64 f, .int .i64 gr, .bool y, .int .i64 r] 31)).cell? ⟨w11.heap.size, 4, none⟩ = some (.int .i64 r) := cell_row5 zb.out 4
  go_wp2_with fail
  refine (K.out.OI _ Lb.out).mono ?_
  rintro e w15 ⟨rfl, rfl⟩
  go_wp2_with fail
  refine (K.out.OF _ Lb.out).mono ?_
  rintro e w16 ⟨rfl, b16⟩
  have L16 := Lib.hid (Lb.out.trans (b16.mono Lb.out.size))
  have zb_16 := Lib.hid ((b16.block _ (lt_of_blockR zb.out)).trans zb.out)
  clear b16
  go_wp2_with fail
  refine (K.out.OI _ L16.out).mono ?_
  rintro e w17 ⟨rfl, rfl⟩
  go_wp2_with fail
  refine (K.out.OS _ L16.out).mono ?_
  rintro e w18 ⟨rfl, b18⟩
  have L18 := Lib.hid (L16.out.trans (b18.mono L16.out.size))
  have zb_18 := Lib.hid ((b18.block _ (lt_of_blockR zb_16.out)).trans zb_16.out)
  clear b18
  go_wp2_with fail
  refine (K.out.DI _ L18.out).mono ?_
  rintro e w19 ⟨rfl, rfl⟩
  go_wp2_with fail
  refine (K.out.DF _ L18.out).mono ?_
  rintro e w20 ⟨rfl, b20⟩
  have L20 := Lib.hid (L18.out.trans (b20.mono L18.out.size))
  have zb_20 := Lib.hid ((b20.block _ (lt_of_blockR zb_18.out)).trans zb_18.out)
  clear b20
  go_wp2_with fail
  refine (K.out.DI _ L20.out).mono ?_
  rintro e w21 ⟨rfl, rfl⟩
  go_wp2_with fail
  refine (K.out.DS _ L20.out).mono ?_
  rintro e w22 ⟨rfl, b22⟩
  have L22 := Lib.hid (L20.out.trans (b22.mono L20.out.size))
  have zb_22 := Lib.hid ((b22.block _ (lt_of_blockR zb_20.out)).trans zb_20.out)
  clear b22
  go_wp2
  go_ret
  exact ⟨rfl, L22.out⟩
set_option maxHeartbeats 4000000 in
set_option maxRecDepth 100000 in
theorem namesAG (a0 a1 : Option Addr) (n0 c0 n1 c1 : Nat) (w : World) (k0 k1 k3 m0 m1 m2 m3 m4 sI v : Int) (tb : Bool) (o f gr : Int) (y : Bool) (r c gv gc : Int) (X Y Z : ByteArray) (h0 : (n0 : Int) ≤ 1048576) (h1 : (n1 : Int) ≤ 1048576)
    (p0 : 0 ≤ k0) (p1 : k0 ≤ 43) (p2 : 0 ≤ m1) (p3 : m1 ≤ 3) (ht : (m2 == 1) = tb) (hs : (sI == 1) = false) (hc : (c == 0) = true) (hgr : 0 < gr)
    (K : Hid (NamesK w (.slice a0 n0 c0) (.slice a1 n1 c1) k0 k1 k3 m0 m1 m2 m3 m4 sI k3 v tb o f gr y r c gv gc X Y Z)) :
    Calls Tryd.prog 3 #[.slice a0 n0 c0, .slice a1 n1 c1] w fun e w' => e = .returned (.bool true) ∧ Below w.heap.size w w' := by
  have L0 := Lib.hid (Below.refl w.heap.size w)
  go_enter Tryd.func3, Tryd.ntmps3
  go_wp2_with fail
  refine (K.out.A0 _ L0.out).mono ?_
  rintro e w1 ⟨rfl, b1⟩
  have L1 := Lib.hid (L0.out.trans (b1.mono L0.out.size))
  clear b1
  go_wp2_with fail
  refine (K.out.A1 _ L1.out).mono ?_
  rintro e w2 ⟨rfl, b2⟩
  have L2 := Lib.hid (L1.out.trans (b2.mono L1.out.size))
  clear b2
  go_wp2_with fail
  refine (K.out.SZ _ L2.out).mono ?_
  rintro e w3 ⟨rfl, b3⟩
  have L3 := Lib.hid (L2.out.trans (b3.mono L2.out.size))
  clear b3
  go_wp2_with fail
  refine (K.out.A3 _ L3.out).mono ?_
  rintro e w4 ⟨rfl, b4⟩
  have L4 := Lib.hid (L3.out.trans (b4.mono L3.out.size))
  clear b4
  go_wp2_with fail
  refine (K.out.RN _ L4.out).mono ?_
  rintro e w5 ⟨rfl, rfl⟩
  go_wp2_with fail
  refine (K.out.RO _ L4.out).mono ?_
  rintro e w6 ⟨rfl, b6⟩
  have L6 := Lib.hid (L4.out.trans (b6.mono L4.out.size))
  clear b6
  go_wp2_with fail
  refine (K.out.CI _ L6.out).mono ?_
  rintro e w7 ⟨rfl, rfl⟩
  go_wp2_with fail
  refine (K.out.CS _ L6.out).mono ?_
  rintro e w8 ⟨rfl, rfl⟩
  go_wp2_with fail
  refine (K.out.B2 _ L6.out).mono ?_
  rintro e w9 ⟨rfl, b9⟩
  have L9 := Lib.hid (L6.out.trans (b9.mono L6.out.size))
  clear b9
  go_wp2_with fail
  refine (K.out.B3 _ L9.out).mono ?_
  rintro e w10 ⟨rfl, b10⟩
  have L10 := Lib.hid (L9.out.trans (b10.mono L9.out.size))
  clear b10
  go_wp2_with fail
  refine (K.out.HI _ L10.out).mono ?_
  rintro e w11 ⟨rfl, b11⟩
  have L11 := Lib.hid (L10.out.trans (b11.mono L10.out.size))
  clear b11
  have La := Lib.hid (L11.out.alloc L11.out.size (.cells #[.int .i64 o, .int .i64 f, .int .i64 gr, .bool y, .int .i64 r] 31))
  have za := Lib.hid (heap_alloc_new w11 (.cells #[.int .i64 o, .int .i64 f, .int .i64 gr, .bool y, .int .i64 r] 31))
  go_wp2_with fail
  refine (K.out.B2 _ La.out).mono ?_
  rintro e w12 ⟨rfl, b12⟩
  have L12 := Lib.hid (La.out.trans (b12.mono La.out.size))
  have za_12 := Lib.hid ((b12.block _ (lt_of_blockR za.out)).trans za.out)
  clear b12
  go_wp2_with fail
  refine (K.out.B3 _ L12.out).mono ?_
  rintro e w13 ⟨rfl, b13⟩
  have L13 := Lib.hid (L12.out.trans (b13.mono L12.out.size))
  have za_13 := Lib.hid ((b13.block _ (lt_of_blockR za_12.out)).trans za_12.out)
  clear b13
  go_wp2_with fail
  refine (K.out.HS _ L13.out).mono ?_
  rintro e w14 ⟨rfl, b14⟩
  have L14 := Lib.hid (L13.out.trans (b14.mono L13.out.size))
  have za_14 := Lib.hid ((b14.block _ (lt_of_blockR za_13.out)).trans za_13.out)
  clear b14
  have Lb := Lib.hid (L14.out.alloc L14.out.size (.cells #[.int .i64 o, .int .i64 f, .int .i64 gr, .bool y, .int .i64 r] 31))
  have zb := Lib.hid ((Below.heap_alloc w14 (.cells #[.int .i64 o, .int .i64 f, .int .i64 gr, .bool y, .int .i64 r] 31) _ (lt_of_blockR za_14.out)).trans za_14.out)
  have q0 : (w14.alloc (.cells #[.int .i64 o, .int .i64 f, .int .i64 gr, .bool y, .int .i64 r] 31)).cell? ⟨w11.heap.size, 0, none⟩ = some (.int .i64 o) := cell_row5 zb.out 0
  have q1 : (w14.alloc (.cells #[.int .i64 o, .int .i64 f, .int .i64 gr, .bool y, .int .i64 r] 31)).cell? ⟨w11.heap.size, 1, none⟩ = some (.int .i64 f) := cell_row5 zb.out 1
  have q2 : (w14.alloc (.cells #[.int .i64 o, .int .i64 f, .int .i64 gr, .bool y, .int .i64 r] 31)).cell? ⟨w11.heap.size, 2, none⟩ = some (.int .i64 gr) := cell_row5 zb.out 2
  have q3 : (w14.alloc (.cells #[.int .i64 o, .int .i64 f, .int .i64 gr, .bool y, .int .i64 r] 31)).cell? ⟨w11.heap.size, 3, none⟩ = some (.bool y) := cell_row5 zb.out 3
  have q4 : (w14.alloc (.cells #[.int .i64 o, .int .i64 f, .int .i64 gr, .bool y, .int .i64 r] 31)).cell? ⟨w11.heap.size, 4, none⟩ = some (.int .i64 r) := cell_row5 zb.out 4
  go_wp2_with fail
  go_region_with (first | (go_at_call 12; (with_reducible refine Calls.mono (K.out.B4 _ (below_dr Lb.out)) ?_); rintro e wa ⟨rfl, ba⟩; have Lc := Lib.hid ((below_dr Lb.out).trans (ba.mono (below_dr Lb.out).size)); have q2a := (ba.cell (p := ⟨w11.heap.size, 2, none⟩) (lt_of_blockR zb.out)).trans q2; have zc := Lib.hid ((ba.block _ (lt_of_blockR zb.out)).trans zb.out)) | (go_at_call 20; (with_reducible refine Calls.mono (K.out.GI hgr _ Lc.out) ?_); rintro e wb ⟨rfl, rfl⟩))
  all_goals
    clear ba q0 q1 q2 q3 q4
    go_wp2_with fail
    go_region_with (first | (go_at_call 12; (with_reducible refine Calls.mono (K.out.B4 _ (below_dr Lc.out)) ?_); rintro e wd ⟨rfl, bd⟩; have Ld := Lib.hid ((below_dr Lc.out).trans (bd.mono (below_dr Lc.out).size)); have q2b := (bd.cell (p := ⟨w11.heap.size, 2, none⟩) (lt_of_blockR zc.out)).trans q2a; clear bd) | (go_at_call 21; (with_reducible refine Calls.mono (K.out.GS hgr _ Ld.out) ?_); rintro e wf ⟨rfl, bf⟩; have Le := Lib.hid (Ld.out.trans (bf.mono Ld.out.size)); clear bf))
    all_goals
      clear q2a q2b
      go_wp2_with fail
      refine (K.out.OI _ Le.out).mono ?_
      rintro e w15 ⟨rfl, rfl⟩
      go_wp2_with fail
      refine (K.out.OF _ Le.out).mono ?_
      rintro e w16 ⟨rfl, b16⟩
      have L16 := Lib.hid (Le.out.trans (b16.mono Le.out.size))
      clear b16
      go_wp2_with fail
      refine (K.out.OI _ L16.out).mono ?_
      rintro e w17 ⟨rfl, rfl⟩
      go_wp2_with fail
      refine (K.out.OS _ L16.out).mono ?_
      rintro e w18 ⟨rfl, b18⟩
      have L18 := Lib.hid (L16.out.trans (b18.mono L16.out.size))
      clear b18
      go_wp2_with fail
      refine (K.out.DI _ L18.out).mono ?_
      rintro e w19 ⟨rfl, rfl⟩
      go_wp2_with fail
      refine (K.out.DF _ L18.out).mono ?_
      rintro e w20 ⟨rfl, b20⟩
      have L20 := Lib.hid (L18.out.trans (b20.mono L18.out.size))
      clear b20
      go_wp2_with fail
      refine (K.out.DI _ L20.out).mono ?_
      rintro e w21 ⟨rfl, rfl⟩
      go_wp2_with fail
      refine (K.out.DS _ L20.out).mono ?_
      rintro e w22 ⟨rfl, b22⟩
      have L22 := Lib.hid (L20.out.trans (b22.mono L20.out.size))
      clear b22
      go_wp2
      go_ret
      exact ⟨rfl, L22.out⟩
set_option maxHeartbeats 4000000 in
set_option maxRecDepth 100000 in
theorem namesBN (a0 a1 : Option Addr) (n0 c0 n1 c1 : Nat) (w : World) (k0 k1 k3 m0 m1 m2 m3 m4 sI v : Int) (tb : Bool) (o f gr : Int) (y : Bool) (r c gv gc : Int) (X Y Z : ByteArray) (h0 : (n0 : Int) ≤ 1048576) (h1 : (n1 : Int) ≤ 1048576)
    (p0 : 0 ≤ k0) (p1 : k0 ≤ 43) (p2 : 0 ≤ m1) (p3 : m1 ≤ 3) (ht : (m2 == 1) = tb) (hs : (sI == 1) = true) (hm : (m0 == 0) = false) (hc : (c == 0) = false)
    (K : Hid (NamesK w (.slice a0 n0 c0) (.slice a1 n1 c1) k0 k1 k3 m0 m1 m2 m3 m4 sI k3 v tb o f gr y r c gv gc X Y Z)) :
    Calls Tryd.prog 3 #[.slice a0 n0 c0, .slice a1 n1 c1] w fun e w' => e = .returned (.bool true) ∧ Below w.heap.size w w' := by
  have L0 := Lib.hid (Below.refl w.heap.size w)
  go_enter Tryd.func3, Tryd.ntmps3
  go_wp2_with fail
  refine (K.out.A0 _ L0.out).mono ?_
  rintro e w1 ⟨rfl, b1⟩
  have L1 := Lib.hid (L0.out.trans (b1.mono L0.out.size))
  clear b1
  go_wp2_with fail
  refine (K.out.A1 _ L1.out).mono ?_
  rintro e w2 ⟨rfl, b2⟩
  have L2 := Lib.hid (L1.out.trans (b2.mono L1.out.size))
  clear b2
  go_wp2_with fail
  refine (K.out.SZ _ L2.out).mono ?_
  rintro e w3 ⟨rfl, b3⟩
  have L3 := Lib.hid (L2.out.trans (b3.mono L2.out.size))
  clear b3
  go_wp2_with fail
  refine (K.out.A3 _ L3.out).mono ?_
  rintro e w4 ⟨rfl, b4⟩
  have L4 := Lib.hid (L3.out.trans (b4.mono L3.out.size))
  clear b4
  go_wp2_with fail
  refine (K.out.B0 _ L4.out).mono ?_
  rintro e w5 ⟨rfl, b5⟩
  have L5 := Lib.hid (L4.out.trans (b5.mono L4.out.size))
  clear b5
  go_wp2_with fail
  refine (K.out.RN _ L5.out).mono ?_
  rintro e w6 ⟨rfl, rfl⟩
  go_wp2_with fail
  refine (K.out.RO _ L5.out).mono ?_
  rintro e w7 ⟨rfl, b7⟩
  have L7 := Lib.hid (L5.out.trans (b7.mono L5.out.size))
  clear b7
  go_wp2_with fail
  refine (K.out.CI _ L7.out).mono ?_
  rintro e w8 ⟨rfl, rfl⟩
  go_wp2_with fail
  refine (K.out.CS _ L7.out).mono ?_
  rintro e w9 ⟨rfl, rfl⟩
  go_wp2_with fail
  refine (K.out.B2 _ L7.out).mono ?_
  rintro e w10 ⟨rfl, b10⟩
  have L10 := Lib.hid (L7.out.trans (b10.mono L7.out.size))
  clear b10
  go_wp2_with fail
  refine (K.out.B3 _ L10.out).mono ?_
  rintro e w11 ⟨rfl, b11⟩
  have L11 := Lib.hid (L10.out.trans (b11.mono L10.out.size))
  clear b11
  go_wp2_with fail
  refine (K.out.HI _ L11.out).mono ?_
  rintro e w12 ⟨rfl, b12⟩
  have L12 := Lib.hid (L11.out.trans (b12.mono L11.out.size))
  clear b12
  have La := Lib.hid (L12.out.alloc L12.out.size (.cells #[.int .i64 o, .int .i64 f, .int .i64 gr, .bool y, .int .i64 r] 31))
  have za := Lib.hid (heap_alloc_new w12 (.cells #[.int .i64 o, .int .i64 f, .int .i64 gr, .bool y, .int .i64 r] 31))
  go_wp2_with fail
  refine (K.out.B2 _ La.out).mono ?_
  rintro e w13 ⟨rfl, b13⟩
  have L13 := Lib.hid (La.out.trans (b13.mono La.out.size))
  have za_13 := Lib.hid ((b13.block _ (lt_of_blockR za.out)).trans za.out)
  clear b13
  go_wp2_with fail
  refine (K.out.B3 _ L13.out).mono ?_
  rintro e w14 ⟨rfl, b14⟩
  have L14 := Lib.hid (L13.out.trans (b14.mono L13.out.size))
  have za_14 := Lib.hid ((b14.block _ (lt_of_blockR za_13.out)).trans za_13.out)
  clear b14
  go_wp2_with fail
  refine (K.out.HS _ L14.out).mono ?_
  rintro e w15 ⟨rfl, b15⟩
  have L15 := Lib.hid (L14.out.trans (b15.mono L14.out.size))
  have za_15 := Lib.hid ((b15.block _ (lt_of_blockR za_14.out)).trans za_14.out)
  clear b15
  have Lb := Lib.hid (L15.out.alloc L15.out.size (.cells #[.int .i64 o, .int .i64 f, .int .i64 gr, .bool y, .int .i64 r] 31))
  have zb := Lib.hid ((Below.heap_alloc w15 (.cells #[.int .i64 o, .int .i64 f, .int .i64 gr, .bool y, .int .i64 r] 31) _ (lt_of_blockR za_15.out)).trans za_15.out)
  have q0 : (w15.alloc (.cells #[.int .i64 o, .int .i64 f, .int .i64 gr, .bool y, .int .i64 r] 31)).cell? ⟨w12.heap.size, 0, none⟩ = some (.int .i64 o) := cell_row5 zb.out 0
  have q1 : (w15.alloc (.cells #[.int .i64 o, .int .i64 f, .int .i64 gr, .bool y, .int .i64 r] 31)).cell? ⟨w12.heap.size, 1, none⟩ = some (.int .i64 f) := cell_row5 zb.out 1
  have q2 : (w15.alloc (.cells #[.int .i64 o, .int .i64 f, .int .i64 gr, .bool y, .int .i64 r] 31)).cell? ⟨w12.heap.size, 2, none⟩ = some (.int .i64 gr) := cell_row5 zb.out 2
  have q3 : (w15.alloc (.cells #[.int .i64 o, .int .i64 f, .int .i64 gr, .bool y, .int .i64 r] 31)).cell? ⟨w12.heap.size, 3, none⟩ = some (.bool y) := cell_row5 zb.out 3
  have q4 : (w15.alloc (.cells #[.int .i64 o, .int .i64 f, .int .i64 gr, .bool y, .int .i64 r] 31)).cell? ⟨w12.heap.size, 4, none⟩ = some (.int .i64 r) := cell_row5 zb.out 4
  go_wp2_with fail
  refine (K.out.OI _ Lb.out).mono ?_
  rintro e w16 ⟨rfl, rfl⟩
  go_wp2_with fail
  refine (K.out.OF _ Lb.out).mono ?_
  rintro e w17 ⟨rfl, b17⟩
  have L17 := Lib.hid (Lb.out.trans (b17.mono Lb.out.size))
  have zb_17 := Lib.hid ((b17.block _ (lt_of_blockR zb.out)).trans zb.out)
  clear b17
  go_wp2_with fail
  refine (K.out.OI _ L17.out).mono ?_
  rintro e w18 ⟨rfl, rfl⟩
  go_wp2_with fail
  refine (K.out.OS _ L17.out).mono ?_
  rintro e w19 ⟨rfl, b19⟩
  have L19 := Lib.hid (L17.out.trans (b19.mono L17.out.size))
  have zb_19 := Lib.hid ((b19.block _ (lt_of_blockR zb_17.out)).trans zb_17.out)
  clear b19
  go_wp2_with fail
  refine (K.out.DI _ L19.out).mono ?_
  rintro e w20 ⟨rfl, rfl⟩
  go_wp2_with fail
  refine (K.out.DF _ L19.out).mono ?_
  rintro e w21 ⟨rfl, b21⟩
  have L21 := Lib.hid (L19.out.trans (b21.mono L19.out.size))
  have zb_21 := Lib.hid ((b21.block _ (lt_of_blockR zb_19.out)).trans zb_19.out)
  clear b21
  go_wp2_with fail
  refine (K.out.DI _ L21.out).mono ?_
  rintro e w22 ⟨rfl, rfl⟩
  go_wp2_with fail
  refine (K.out.DS _ L21.out).mono ?_
  rintro e w23 ⟨rfl, b23⟩
  have L23 := Lib.hid (L21.out.trans (b23.mono L21.out.size))
  have zb_23 := Lib.hid ((b23.block _ (lt_of_blockR zb_21.out)).trans zb_21.out)
  clear b23
  go_wp2
  go_ret
  exact ⟨rfl, L23.out⟩
set_option maxHeartbeats 4000000 in
set_option maxRecDepth 100000 in
theorem namesBZ (a0 a1 : Option Addr) (n0 c0 n1 c1 : Nat) (w : World) (k0 k1 k3 m0 m1 m2 m3 m4 sI v : Int) (tb : Bool) (o f gr : Int) (y : Bool) (r c gv gc : Int) (X Y Z : ByteArray) (h0 : (n0 : Int) ≤ 1048576) (h1 : (n1 : Int) ≤ 1048576)
    (p0 : 0 ≤ k0) (p1 : k0 ≤ 43) (p2 : 0 ≤ m1) (p3 : m1 ≤ 3) (ht : (m2 == 1) = tb) (hs : (sI == 1) = true) (hm : (m0 == 0) = false) (hc : (c == 0) = true) (hgr : decide (0 < gr) = false)
    (K : Hid (NamesK w (.slice a0 n0 c0) (.slice a1 n1 c1) k0 k1 k3 m0 m1 m2 m3 m4 sI k3 v tb o f gr y r c gv gc X Y Z)) :
    Calls Tryd.prog 3 #[.slice a0 n0 c0, .slice a1 n1 c1] w fun e w' => e = .returned (.bool true) ∧ Below w.heap.size w w' := by
  have L0 := Lib.hid (Below.refl w.heap.size w)
  go_enter Tryd.func3, Tryd.ntmps3
  go_wp2_with fail
  refine (K.out.A0 _ L0.out).mono ?_
  rintro e w1 ⟨rfl, b1⟩
  have L1 := Lib.hid (L0.out.trans (b1.mono L0.out.size))
  clear b1
  go_wp2_with fail
  refine (K.out.A1 _ L1.out).mono ?_
  rintro e w2 ⟨rfl, b2⟩
  have L2 := Lib.hid (L1.out.trans (b2.mono L1.out.size))
  clear b2
  go_wp2_with fail
  refine (K.out.SZ _ L2.out).mono ?_
  rintro e w3 ⟨rfl, b3⟩
  have L3 := Lib.hid (L2.out.trans (b3.mono L2.out.size))
  clear b3
  go_wp2_with fail
  refine (K.out.A3 _ L3.out).mono ?_
  rintro e w4 ⟨rfl, b4⟩
  have L4 := Lib.hid (L3.out.trans (b4.mono L3.out.size))
  clear b4
  go_wp2_with fail
  refine (K.out.B0 _ L4.out).mono ?_
  rintro e w5 ⟨rfl, b5⟩
  have L5 := Lib.hid (L4.out.trans (b5.mono L4.out.size))
  clear b5
  go_wp2_with fail
  refine (K.out.RN _ L5.out).mono ?_
  rintro e w6 ⟨rfl, rfl⟩
  go_wp2_with fail
  refine (K.out.RO _ L5.out).mono ?_
  rintro e w7 ⟨rfl, b7⟩
  have L7 := Lib.hid (L5.out.trans (b7.mono L5.out.size))
  clear b7
  go_wp2_with fail
  refine (K.out.CI _ L7.out).mono ?_
  rintro e w8 ⟨rfl, rfl⟩
  go_wp2_with fail
  refine (K.out.CS _ L7.out).mono ?_
  rintro e w9 ⟨rfl, rfl⟩
  go_wp2_with fail
  refine (K.out.B2 _ L7.out).mono ?_
  rintro e w10 ⟨rfl, b10⟩
  have L10 := Lib.hid (L7.out.trans (b10.mono L7.out.size))
  clear b10
  go_wp2_with fail
  refine (K.out.B3 _ L10.out).mono ?_
  rintro e w11 ⟨rfl, b11⟩
  have L11 := Lib.hid (L10.out.trans (b11.mono L10.out.size))
  clear b11
  go_wp2_with fail
  refine (K.out.HI _ L11.out).mono ?_
  rintro e w12 ⟨rfl, b12⟩
  have L12 := Lib.hid (L11.out.trans (b12.mono L11.out.size))
  clear b12
  have La := Lib.hid (L12.out.alloc L12.out.size (.cells #[.int .i64 o, .int .i64 f, .int .i64 gr, .bool y, .int .i64 r] 31))
  have za := Lib.hid (heap_alloc_new w12 (.cells #[.int .i64 o, .int .i64 f, .int .i64 gr, .bool y, .int .i64 r] 31))
  go_wp2_with fail
  refine (K.out.B2 _ La.out).mono ?_
  rintro e w13 ⟨rfl, b13⟩
  have L13 := Lib.hid (La.out.trans (b13.mono La.out.size))
  have za_13 := Lib.hid ((b13.block _ (lt_of_blockR za.out)).trans za.out)
  clear b13
  go_wp2_with fail
  refine (K.out.B3 _ L13.out).mono ?_
  rintro e w14 ⟨rfl, b14⟩
  have L14 := Lib.hid (L13.out.trans (b14.mono L13.out.size))
  have za_14 := Lib.hid ((b14.block _ (lt_of_blockR za_13.out)).trans za_13.out)
  clear b14
  go_wp2_with fail
  refine (K.out.HS _ L14.out).mono ?_
  rintro e w15 ⟨rfl, b15⟩
  have L15 := Lib.hid (L14.out.trans (b15.mono L14.out.size))
  have za_15 := Lib.hid ((b15.block _ (lt_of_blockR za_14.out)).trans za_14.out)
  clear b15
  have Lb := Lib.hid (L15.out.alloc L15.out.size (.cells #[.int .i64 o, .int .i64 f, .int .i64 gr, .bool y, .int .i64 r] 31))
  have zb := Lib.hid ((Below.heap_alloc w15 (.cells #[.int .i64 o, .int .i64 f, .int .i64 gr, .bool y, .int .i64 r] 31) _ (lt_of_blockR za_15.out)).trans za_15.out)
  have q0 : (w15.alloc (.cells #[.int .i64 o, .int .i64 f, .int .i64 gr, .bool y, .int .i64 r] 31)).cell? ⟨w12.heap.size, 0, none⟩ = some (.int .i64 o) := cell_row5 zb.out 0
  have q1 : (w15.alloc (.cells #[.int .i64 o, .int .i64 f, .int .i64 gr, .bool y, .int .i64 r] 31)).cell? ⟨w12.heap.size, 1, none⟩ = some (.int .i64 f) := cell_row5 zb.out 1
  have q2 : (w15.alloc (.cells #[.int .i64 o, .int .i64 f, .int .i64 gr, .bool y, .int .i64 r] 31)).cell? ⟨w12.heap.size, 2, none⟩ = some (.int .i64 gr) := cell_row5 zb.out 2
  have q3 : (w15.alloc (.cells #[.int .i64 o, .int .i64 f, .int .i64 gr, .bool y, .int .i64 r] 31)).cell? ⟨w12.heap.size, 3, none⟩ = some (.bool y) := cell_row5 zb.out 3
  have q4 : (w15.alloc (.cells #[.int .i64 o, .int .i64 f, .int .i64 gr, .bool y, .int .i64 r] 31)).cell? ⟨w12.heap.size, 4, none⟩ = some (.int .i64 r) := cell_row5 zb.out 4
  go_wp2_with fail
  refine (K.out.OI _ Lb.out).mono ?_
  rintro e w16 ⟨rfl, rfl⟩
  go_wp2_with fail
  refine (K.out.OF _ Lb.out).mono ?_
  rintro e w17 ⟨rfl, b17⟩
  have L17 := Lib.hid (Lb.out.trans (b17.mono Lb.out.size))
  have zb_17 := Lib.hid ((b17.block _ (lt_of_blockR zb.out)).trans zb.out)
  clear b17
  go_wp2_with fail
  refine (K.out.OI _ L17.out).mono ?_
  rintro e w18 ⟨rfl, rfl⟩
  go_wp2_with fail
  refine (K.out.OS _ L17.out).mono ?_
  rintro e w19 ⟨rfl, b19⟩
  have L19 := Lib.hid (L17.out.trans (b19.mono L17.out.size))
  have zb_19 := Lib.hid ((b19.block _ (lt_of_blockR zb_17.out)).trans zb_17.out)
  clear b19
  go_wp2_with fail
  refine (K.out.DI _ L19.out).mono ?_
  rintro e w20 ⟨rfl, rfl⟩
  go_wp2_with fail
  refine (K.out.DF _ L19.out).mono ?_
  rintro e w21 ⟨rfl, b21⟩
  have L21 := Lib.hid (L19.out.trans (b21.mono L19.out.size))
  have zb_21 := Lib.hid ((b21.block _ (lt_of_blockR zb_19.out)).trans zb_19.out)
  clear b21
  go_wp2_with fail
  refine (K.out.DI _ L21.out).mono ?_
  rintro e w22 ⟨rfl, rfl⟩
  go_wp2_with fail
  refine (K.out.DS _ L21.out).mono ?_
  rintro e w23 ⟨rfl, b23⟩
  have L23 := Lib.hid (L21.out.trans (b23.mono L21.out.size))
  have zb_23 := Lib.hid ((b23.block _ (lt_of_blockR zb_21.out)).trans zb_21.out)
  clear b23
  go_wp2
  go_ret
  exact ⟨rfl, L23.out⟩
set_option maxHeartbeats 4000000 in
set_option maxRecDepth 100000 in
theorem namesBG (a0 a1 : Option Addr) (n0 c0 n1 c1 : Nat) (w : World) (k0 k1 k3 m0 m1 m2 m3 m4 sI v : Int) (tb : Bool) (o f gr : Int) (y : Bool) (r c gv gc : Int) (X Y Z : ByteArray) (h0 : (n0 : Int) ≤ 1048576) (h1 : (n1 : Int) ≤ 1048576)
    (p0 : 0 ≤ k0) (p1 : k0 ≤ 43) (p2 : 0 ≤ m1) (p3 : m1 ≤ 3) (ht : (m2 == 1) = tb) (hs : (sI == 1) = true) (hm : (m0 == 0) = false) (hc : (c == 0) = true) (hgr : 0 < gr)
    (K : Hid (NamesK w (.slice a0 n0 c0) (.slice a1 n1 c1) k0 k1 k3 m0 m1 m2 m3 m4 sI k3 v tb o f gr y r c gv gc X Y Z)) :
    Calls Tryd.prog 3 #[.slice a0 n0 c0, .slice a1 n1 c1] w fun e w' => e = .returned (.bool true) ∧ Below w.heap.size w w' := by
  have L0 := Lib.hid (Below.refl w.heap.size w)
  go_enter Tryd.func3, Tryd.ntmps3
  go_wp2_with fail
  refine (K.out.A0 _ L0.out).mono ?_
  rintro e w1 ⟨rfl, b1⟩
  have L1 := Lib.hid (L0.out.trans (b1.mono L0.out.size))
  clear b1
  go_wp2_with fail
  refine (K.out.A1 _ L1.out).mono ?_
  rintro e w2 ⟨rfl, b2⟩
  have L2 := Lib.hid (L1.out.trans (b2.mono L1.out.size))
  clear b2
  go_wp2_with fail
  refine (K.out.SZ _ L2.out).mono ?_
  rintro e w3 ⟨rfl, b3⟩
  have L3 := Lib.hid (L2.out.trans (b3.mono L2.out.size))
  clear b3
  go_wp2_with fail
  refine (K.out.A3 _ L3.out).mono ?_
  rintro e w4 ⟨rfl, b4⟩
  have L4 := Lib.hid (L3.out.trans (b4.mono L3.out.size))
  clear b4
  go_wp2_with fail
  refine (K.out.B0 _ L4.out).mono ?_
  rintro e w5 ⟨rfl, b5⟩
  have L5 := Lib.hid (L4.out.trans (b5.mono L4.out.size))
  clear b5
  go_wp2_with fail
  refine (K.out.RN _ L5.out).mono ?_
  rintro e w6 ⟨rfl, rfl⟩
  go_wp2_with fail
  refine (K.out.RO _ L5.out).mono ?_
  rintro e w7 ⟨rfl, b7⟩
  have L7 := Lib.hid (L5.out.trans (b7.mono L5.out.size))
  clear b7
  go_wp2_with fail
  refine (K.out.CI _ L7.out).mono ?_
  rintro e w8 ⟨rfl, rfl⟩
  go_wp2_with fail
  refine (K.out.CS _ L7.out).mono ?_
  rintro e w9 ⟨rfl, rfl⟩
  go_wp2_with fail
  refine (K.out.B2 _ L7.out).mono ?_
  rintro e w10 ⟨rfl, b10⟩
  have L10 := Lib.hid (L7.out.trans (b10.mono L7.out.size))
  clear b10
  go_wp2_with fail
  refine (K.out.B3 _ L10.out).mono ?_
  rintro e w11 ⟨rfl, b11⟩
  have L11 := Lib.hid (L10.out.trans (b11.mono L10.out.size))
  clear b11
  go_wp2_with fail
  refine (K.out.HI _ L11.out).mono ?_
  rintro e w12 ⟨rfl, b12⟩
  have L12 := Lib.hid (L11.out.trans (b12.mono L11.out.size))
  clear b12
  have La := Lib.hid (L12.out.alloc L12.out.size (.cells #[.int .i64 o, .int .i64 f, .int .i64 gr, .bool y, .int .i64 r] 31))
  have za := Lib.hid (heap_alloc_new w12 (.cells #[.int .i64 o, .int .i64 f, .int .i64 gr, .bool y, .int .i64 r] 31))
  go_wp2_with fail
  refine (K.out.B2 _ La.out).mono ?_
  rintro e w13 ⟨rfl, b13⟩
  have L13 := Lib.hid (La.out.trans (b13.mono La.out.size))
  have za_13 := Lib.hid ((b13.block _ (lt_of_blockR za.out)).trans za.out)
  clear b13
  go_wp2_with fail
  refine (K.out.B3 _ L13.out).mono ?_
  rintro e w14 ⟨rfl, b14⟩
  have L14 := Lib.hid (L13.out.trans (b14.mono L13.out.size))
  have za_14 := Lib.hid ((b14.block _ (lt_of_blockR za_13.out)).trans za_13.out)
  clear b14
  go_wp2_with fail
  refine (K.out.HS _ L14.out).mono ?_
  rintro e w15 ⟨rfl, b15⟩
  have L15 := Lib.hid (L14.out.trans (b15.mono L14.out.size))
  have za_15 := Lib.hid ((b15.block _ (lt_of_blockR za_14.out)).trans za_14.out)
  clear b15
  have Lb := Lib.hid (L15.out.alloc L15.out.size (.cells #[.int .i64 o, .int .i64 f, .int .i64 gr, .bool y, .int .i64 r] 31))
  have zb := Lib.hid ((Below.heap_alloc w15 (.cells #[.int .i64 o, .int .i64 f, .int .i64 gr, .bool y, .int .i64 r] 31) _ (lt_of_blockR za_15.out)).trans za_15.out)
  have q0 : (w15.alloc (.cells #[.int .i64 o, .int .i64 f, .int .i64 gr, .bool y, .int .i64 r] 31)).cell? ⟨w12.heap.size, 0, none⟩ = some (.int .i64 o) := cell_row5 zb.out 0
  have q1 : (w15.alloc (.cells #[.int .i64 o, .int .i64 f, .int .i64 gr, .bool y, .int .i64 r] 31)).cell? ⟨w12.heap.size, 1, none⟩ = some (.int .i64 f) := cell_row5 zb.out 1
  have q2 : (w15.alloc (.cells #[.int .i64 o, .int .i64 f, .int .i64 gr, .bool y, .int .i64 r] 31)).cell? ⟨w12.heap.size, 2, none⟩ = some (.int .i64 gr) := cell_row5 zb.out 2
  have q3 : (w15.alloc (.cells #[.int .i64 o, .int .i64 f, .int .i64 gr, .bool y, .int .i64 r] 31)).cell? ⟨w12.heap.size, 3, none⟩ = some (.bool y) := cell_row5 zb.out 3
  have q4 : (w15.alloc (.cells #[.int .i64 o, .int .i64 f, .int .i64 gr, .bool y, .int .i64 r] 31)).cell? ⟨w12.heap.size, 4, none⟩ = some (.int .i64 r) := cell_row5 zb.out 4
  go_wp2_with fail
  go_region_with (first | (go_at_call 12; (with_reducible refine Calls.mono (K.out.B4 _ (below_dr Lb.out)) ?_); rintro e wa ⟨rfl, ba⟩; have Lc := Lib.hid ((below_dr Lb.out).trans (ba.mono (below_dr Lb.out).size)); have q2a := (ba.cell (p := ⟨w12.heap.size, 2, none⟩) (lt_of_blockR zb.out)).trans q2; have zc := Lib.hid ((ba.block _ (lt_of_blockR zb.out)).trans zb.out)) | (go_at_call 20; (with_reducible refine Calls.mono (K.out.GI hgr _ Lc.out) ?_); rintro e wb ⟨rfl, rfl⟩))
  all_goals
    clear ba q0 q1 q2 q3 q4
    go_wp2_with fail
    go_region_with (first | (go_at_call 12; (with_reducible refine Calls.mono (K.out.B4 _ (below_dr Lc.out)) ?_); rintro e wd ⟨rfl, bd⟩; have Ld := Lib.hid ((below_dr Lc.out).trans (bd.mono (below_dr Lc.out).size)); have q2b := (bd.cell (p := ⟨w12.heap.size, 2, none⟩) (lt_of_blockR zc.out)).trans q2a; clear bd) | (go_at_call 21; (with_reducible refine Calls.mono (K.out.GS hgr _ Ld.out) ?_); rintro e wf ⟨rfl, bf⟩; have Le := Lib.hid (Ld.out.trans (bf.mono Ld.out.size)); clear bf))
    all_goals
      clear q2a q2b
      go_wp2_with fail
      refine (K.out.OI _ Le.out).mono ?_
      rintro e w16 ⟨rfl, rfl⟩
      go_wp2_with fail
      refine (K.out.OF _ Le.out).mono ?_
      rintro e w17 ⟨rfl, b17⟩
      have L17 := Lib.hid (Le.out.trans (b17.mono Le.out.size))
      clear b17
      go_wp2_with fail
      refine (K.out.OI _ L17.out).mono ?_
      rintro e w18 ⟨rfl, rfl⟩
      go_wp2_with fail
      refine (K.out.OS _ L17.out).mono ?_
      rintro e w19 ⟨rfl, b19⟩
      have L19 := Lib.hid (L17.out.trans (b19.mono L17.out.size))
      clear b19
      go_wp2_with fail
      refine (K.out.DI _ L19.out).mono ?_
      rintro e w20 ⟨rfl, rfl⟩
      go_wp2_with fail
      refine (K.out.DF _ L19.out).mono ?_
      rintro e w21 ⟨rfl, b21⟩
      have L21 := Lib.hid (L19.out.trans (b21.mono L19.out.size))
      clear b21
      go_wp2_with fail
      refine (K.out.DI _ L21.out).mono ?_
      rintro e w22 ⟨rfl, rfl⟩
      go_wp2_with fail
      refine (K.out.DS _ L21.out).mono ?_
      rintro e w23 ⟨rfl, b23⟩
      have L23 := Lib.hid (L21.out.trans (b23.mono L21.out.size))
      clear b23
      go_wp2
      go_ret
      exact ⟨rfl, L23.out⟩
set_option maxHeartbeats 4000000 in
set_option maxRecDepth 100000 in
theorem namesCN (a0 a1 : Option Addr) (n0 c0 n1 c1 : Nat) (w : World) (k0 k1 k3 m0 m1 m2 m3 m4 sI v : Int) (tb : Bool) (o f gr : Int) (y : Bool) (r c gv gc : Int) (X Y Z : ByteArray) (h0 : (n0 : Int) ≤ 1048576) (h1 : (n1 : Int) ≤ 1048576)
    (p0 : 0 ≤ k0) (p1 : k0 ≤ 43) (p2 : 0 ≤ m1) (p3 : m1 ≤ 3) (ht : (m2 == 1) = tb) (hs : (sI == 1) = true) (hm : (m0 == 0) = true) (hc : (c == 0) = false)
    (K : Hid (NamesK w (.slice a0 n0 c0) (.slice a1 n1 c1) k0 k1 k3 m0 m1 m2 m3 m4 sI (16 + m1) v tb o f gr y r c gv gc X Y Z)) :
    Calls Tryd.prog 3 #[.slice a0 n0 c0, .slice a1 n1 c1] w fun e w' => e = .returned (.bool true) ∧ Below w.heap.size w w' := by
  have L0 := Lib.hid (Below.refl w.heap.size w)
  go_enter Tryd.func3, Tryd.ntmps3
  go_wp2_with fail
  refine (K.out.A0 _ L0.out).mono ?_
  rintro e w1 ⟨rfl, b1⟩
  have L1 := Lib.hid (L0.out.trans (b1.mono L0.out.size))
  clear b1
  go_wp2_with fail
  refine (K.out.A1 _ L1.out).mono ?_
  rintro e w2 ⟨rfl, b2⟩
  have L2 := Lib.hid (L1.out.trans (b2.mono L1.out.size))
  clear b2
  go_wp2_with fail
  refine (K.out.SZ _ L2.out).mono ?_
  rintro e w3 ⟨rfl, b3⟩
  have L3 := Lib.hid (L2.out.trans (b3.mono L2.out.size))
  clear b3
  go_wp2_with fail
  refine (K.out.A3 _ L3.out).mono ?_
  rintro e w4 ⟨rfl, b4⟩
  have L4 := Lib.hid (L3.out.trans (b4.mono L3.out.size))
  clear b4
  go_wp2_with fail
  refine (K.out.B0 _ L4.out).mono ?_
  rintro e w5 ⟨rfl, b5⟩
  have L5 := Lib.hid (L4.out.trans (b5.mono L4.out.size))
  clear b5
  go_wp2_with fail
  refine (K.out.B1 _ L5.out).mono ?_
  rintro e w6 ⟨rfl, b6⟩
  have L6 := Lib.hid (L5.out.trans (b6.mono L5.out.size))
  clear b6
  go_wp2_with fail
  refine (K.out.RN _ L6.out).mono ?_
  rintro e w7 ⟨rfl, rfl⟩
  go_wp2_with fail
  refine (K.out.RO _ L6.out).mono ?_
  rintro e w8 ⟨rfl, b8⟩
  have L8 := Lib.hid (L6.out.trans (b8.mono L6.out.size))
  clear b8
  go_wp2_with fail
  refine (K.out.CI _ L8.out).mono ?_
  rintro e w9 ⟨rfl, rfl⟩
  go_wp2_with fail
  refine (K.out.CS _ L8.out).mono ?_
  rintro e w10 ⟨rfl, rfl⟩
  go_wp2_with fail
  refine (K.out.B2 _ L8.out).mono ?_
  rintro e w11 ⟨rfl, b11⟩
  have L11 := Lib.hid (L8.out.trans (b11.mono L8.out.size))
  clear b11
  go_wp2_with fail
  refine (K.out.B3 _ L11.out).mono ?_
  rintro e w12 ⟨rfl, b12⟩
  have L12 := Lib.hid (L11.out.trans (b12.mono L11.out.size))
  clear b12
  go_wp2_with fail
  refine (K.out.HI _ L12.out).mono ?_
  rintro e w13 ⟨rfl, b13⟩
  have L13 := Lib.hid (L12.out.trans (b13.mono L12.out.size))
  clear b13
  have La := Lib.hid (L13.out.alloc L13.out.size (.cells #[.int .i64 o, .int .i64 f, .int .i64 gr, .bool y, .int .i64 r] 31))
  have za := Lib.hid (heap_alloc_new w13 (.cells #[.int .i64 o, .int .i64 f, .int .i64 gr, .bool y, .int .i64 r] 31))
  go_wp2_with fail
  refine (K.out.B2 _ La.out).mono ?_
  rintro e w14 ⟨rfl, b14⟩
  have L14 := Lib.hid (La.out.trans (b14.mono La.out.size))
  have za_14 := Lib.hid ((b14.block _ (lt_of_blockR za.out)).trans za.out)
  clear b14
  go_wp2_with fail
  refine (K.out.B3 _ L14.out).mono ?_
  rintro e w15 ⟨rfl, b15⟩
  have L15 := Lib.hid (L14.out.trans (b15.mono L14.out.size))
  have za_15 := Lib.hid ((b15.block _ (lt_of_blockR za_14.out)).trans za_14.out)
  clear b15
  go_wp2_with fail
  refine (K.out.HS _ L15.out).mono ?_
  rintro e w16 ⟨rfl, b16⟩
  have L16 := Lib.hid (L15.out.trans (b16.mono L15.out.size))
  have za_16 := Lib.hid ((b16.block _ (lt_of_blockR za_15.out)).trans za_15.out)
  clear b16
  have Lb := Lib.hid (L16.out.alloc L16.out.size (.cells #[.int .i64 o, .int .i64 f, .int .i64 gr, .bool y, .int .i64 r] 31))
  have zb := Lib.hid ((Below.heap_alloc w16 (.cells #[.int .i64 o, .int .i64 f, .int .i64 gr, .bool y, .int .i64 r] 31) _ (lt_of_blockR za_16.out)).trans za_16.out)
  have q0 : (w16.alloc (.cells #[.int .i64 o, .int .i64 f, .int .i64 gr, .bool y, .int .i64 r] 31)).cell? ⟨w13.heap.size, 0, none⟩ = some (.int .i64 o) := cell_row5 zb.out 0
  have q1 : (w16.alloc (.cells #[.int .i64 o, .int .i64 f, .int .i64 gr, .bool y, .int .i64 r] 31)).cell? ⟨w13.heap.size, 1, none⟩ = some (.int .i64 f) := cell_row5 zb.out 1
  have q2 : (w16.alloc (.cells #[.int .i64 o, .int .i64 f, .int .i64 gr, .bool y, .int .i64 r] 31)).cell? ⟨w13.heap.size, 2, none⟩ = some (.int .i64 gr) := cell_row5 zb.out 2
  have q3 : (w16.alloc (.cells #[.int .i64 o, .int .i64 f, .int .i64 gr, .bool y, .int .i64 r] 31)).cell? ⟨w13.heap.size, 3, none⟩ = some (.bool y) := cell_row5 zb.out 3
  have q4 : (w16.alloc (.cells #[.int .i64 o, .int .i64 f, .int .i64 gr, .bool y, .int .i64 r] 31)).cell? ⟨w13.heap.size, 4, none⟩ = some (.int .i64 r) := cell_row5 zb.out 4
  go_wp2_with fail
  refine (K.out.OI _ Lb.out).mono ?_
  rintro e w17 ⟨rfl, rfl⟩
  go_wp2_with fail
  refine (K.out.OF _ Lb.out).mono ?_
  rintro e w18 ⟨rfl, b18⟩
  have L18 := Lib.hid (Lb.out.trans (b18.mono Lb.out.size))
  have zb_18 := Lib.hid ((b18.block _ (lt_of_blockR zb.out)).trans zb.out)
  clear b18
  go_wp2_with fail
  refine (K.out.OI _ L18.out).mono ?_
  rintro e w19 ⟨rfl, rfl⟩
  go_wp2_with fail
  refine (K.out.OS _ L18.out).mono ?_
  rintro e w20 ⟨rfl, b20⟩
  have L20 := Lib.hid (L18.out.trans (b20.mono L18.out.size))
  have zb_20 := Lib.hid ((b20.block _ (lt_of_blockR zb_18.out)).trans zb_18.out)
  clear b20
  go_wp2_with fail
  refine (K.out.DI _ L20.out).mono ?_
  rintro e w21 ⟨rfl, rfl⟩
  go_wp2_with fail
  refine (K.out.DF _ L20.out).mono ?_
  rintro e w22 ⟨rfl, b22⟩
  have L22 := Lib.hid (L20.out.trans (b22.mono L20.out.size))
  have zb_22 := Lib.hid ((b22.block _ (lt_of_blockR zb_20.out)).trans zb_20.out)
  clear b22
  go_wp2_with fail
  refine (K.out.DI _ L22.out).mono ?_
  rintro e w23 ⟨rfl, rfl⟩
  go_wp2_with fail
  refine (K.out.DS _ L22.out).mono ?_
  rintro e w24 ⟨rfl, b24⟩
  have L24 := Lib.hid (L22.out.trans (b24.mono L22.out.size))
  have zb_24 := Lib.hid ((b24.block _ (lt_of_blockR zb_22.out)).trans zb_22.out)
  clear b24
  go_wp2
  go_ret
  exact ⟨rfl, L24.out⟩
set_option maxHeartbeats 4000000 in
set_option maxRecDepth 100000 in
theorem namesCZ (a0 a1 : Option Addr) (n0 c0 n1 c1 : Nat) (w : World) (k0 k1 k3 m0 m1 m2 m3 m4 sI v : Int) (tb : Bool) (o f gr : Int) (y : Bool) (r c gv gc : Int) (X Y Z : ByteArray) (h0 : (n0 : Int) ≤ 1048576) (h1 : (n1 : Int) ≤ 1048576)
    (p0 : 0 ≤ k0) (p1 : k0 ≤ 43) (p2 : 0 ≤ m1) (p3 : m1 ≤ 3) (ht : (m2 == 1) = tb) (hs : (sI == 1) = true) (hm : (m0 == 0) = true) (hc : (c == 0) = true) (hgr : decide (0 < gr) = false)
    (K : Hid (NamesK w (.slice a0 n0 c0) (.slice a1 n1 c1) k0 k1 k3 m0 m1 m2 m3 m4 sI (16 + m1) v tb o f gr y r c gv gc X Y Z)) :
    Calls Tryd.prog 3 #[.slice a0 n0 c0, .slice a1 n1 c1] w fun e w' => e = .returned (.bool true) ∧ Below w.heap.size w w' := by
  have L0 := Lib.hid (Below.refl w.heap.size w)
  go_enter Tryd.func3, Tryd.ntmps3
  go_wp2_with fail
  refine (K.out.A0 _ L0.out).mono ?_
  rintro e w1 ⟨rfl, b1⟩
  have L1 := Lib.hid (L0.out.trans (b1.mono L0.out.size))
  clear b1
  go_wp2_with fail
  refine (K.out.A1 _ L1.out).mono ?_
  rintro e w2 ⟨rfl, b2⟩
  have L2 := Lib.hid (L1.out.trans (b2.mono L1.out.size))
  clear b2
  go_wp2_with fail
  refine (K.out.SZ _ L2.out).mono ?_
  rintro e w3 ⟨rfl, b3⟩
  have L3 := Lib.hid (L2.out.trans (b3.mono L2.out.size))
  clear b3
  go_wp2_with fail
  refine (K.out.A3 _ L3.out).mono ?_
  rintro e w4 ⟨rfl, b4⟩
  have L4 := Lib.hid (L3.out.trans (b4.mono L3.out.size))
  clear b4
  go_wp2_with fail
  refine (K.out.B0 _ L4.out).mono ?_
  rintro e w5 ⟨rfl, b5⟩
  have L5 := Lib.hid (L4.out.trans (b5.mono L4.out.size))
  clear b5
  go_wp2_with fail
  refine (K.out.B1 _ L5.out).mono ?_
  rintro e w6 ⟨rfl, b6⟩
  have L6 := Lib.hid (L5.out.trans (b6.mono L5.out.size))
  clear b6
  go_wp2_with fail
  refine (K.out.RN _ L6.out).mono ?_
  rintro e w7 ⟨rfl, rfl⟩
  go_wp2_with fail
  refine (K.out.RO _ L6.out).mono ?_
  rintro e w8 ⟨rfl, b8⟩
  have L8 := Lib.hid (L6.out.trans (b8.mono L6.out.size))
  clear b8
  go_wp2_with fail
  refine (K.out.CI _ L8.out).mono ?_
  rintro e w9 ⟨rfl, rfl⟩
  go_wp2_with fail
  refine (K.out.CS _ L8.out).mono ?_
  rintro e w10 ⟨rfl, rfl⟩
  go_wp2_with fail
  refine (K.out.B2 _ L8.out).mono ?_
  rintro e w11 ⟨rfl, b11⟩
  have L11 := Lib.hid (L8.out.trans (b11.mono L8.out.size))
  clear b11
  go_wp2_with fail
  refine (K.out.B3 _ L11.out).mono ?_
  rintro e w12 ⟨rfl, b12⟩
  have L12 := Lib.hid (L11.out.trans (b12.mono L11.out.size))
  clear b12
  go_wp2_with fail
  refine (K.out.HI _ L12.out).mono ?_
  rintro e w13 ⟨rfl, b13⟩
  have L13 := Lib.hid (L12.out.trans (b13.mono L12.out.size))
  clear b13
  have La := Lib.hid (L13.out.alloc L13.out.size (.cells #[.int .i64 o, .int .i64 f, .int .i64 gr, .bool y, .int .i64 r] 31))
  have za := Lib.hid (heap_alloc_new w13 (.cells #[.int .i64 o, .int .i64 f, .int .i64 gr, .bool y, .int .i64 r] 31))
  go_wp2_with fail
  refine (K.out.B2 _ La.out).mono ?_
  rintro e w14 ⟨rfl, b14⟩
  have L14 := Lib.hid (La.out.trans (b14.mono La.out.size))
  have za_14 := Lib.hid ((b14.block _ (lt_of_blockR za.out)).trans za.out)
  clear b14
  go_wp2_with fail
  refine (K.out.B3 _ L14.out).mono ?_
  rintro e w15 ⟨rfl, b15⟩
  have L15 := Lib.hid (L14.out.trans (b15.mono L14.out.size))
  have za_15 := Lib.hid ((b15.block _ (lt_of_blockR za_14.out)).trans za_14.out)
  clear b15
  go_wp2_with fail
  refine (K.out.HS _ L15.out).mono ?_
  rintro e w16 ⟨rfl, b16⟩
  have L16 := Lib.hid (L15.out.trans (b16.mono L15.out.size))
  have za_16 := Lib.hid ((b16.block _ (lt_of_blockR za_15.out)).trans za_15.out)
  clear b16
  have Lb := Lib.hid (L16.out.alloc L16.out.size (.cells #[.int .i64 o, .int .i64 f, .int .i64 gr, .bool y, .int .i64 r] 31))
  have zb := Lib.hid ((Below.heap_alloc w16 (.cells #[.int .i64 o, .int .i64 f, .int .i64 gr, .bool y, .int .i64 r] 31) _ (lt_of_blockR za_16.out)).trans za_16.out)
  have q0 : (w16.alloc (.cells #[.int .i64 o, .int .i64 f, .int .i64 gr, .bool y, .int .i64 r] 31)).cell? ⟨w13.heap.size, 0, none⟩ = some (.int .i64 o) := cell_row5 zb.out 0
  have q1 : (w16.alloc (.cells #[.int .i64 o, .int .i64 f, .int .i64 gr, .bool y, .int .i64 r] 31)).cell? ⟨w13.heap.size, 1, none⟩ = some (.int .i64 f) := cell_row5 zb.out 1
  have q2 : (w16.alloc (.cells #[.int .i64 o, .int .i64 f, .int .i64 gr, .bool y, .int .i64 r] 31)).cell? ⟨w13.heap.size, 2, none⟩ = some (.int .i64 gr) := cell_row5 zb.out 2
  have q3 : (w16.alloc (.cells #[.int .i64 o, .int .i64 f, .int .i64 gr, .bool y, .int .i64 r] 31)).cell? ⟨w13.heap.size, 3, none⟩ = some (.bool y) := cell_row5 zb.out 3
  have q4 : (w16.alloc (.cells #[.int .i64 o, .int .i64 f, .int .i64 gr, .bool y, .int .i64 r] 31)).cell? ⟨w13.heap.size, 4, none⟩ = some (.int .i64 r) := cell_row5 zb.out 4
  go_wp2_with fail
  refine (K.out.OI _ Lb.out).mono ?_
  rintro e w17 ⟨rfl, rfl⟩
  go_wp2_with fail
  refine (K.out.OF _ Lb.out).mono ?_
  rintro e w18 ⟨rfl, b18⟩
  have L18 := Lib.hid (Lb.out.trans (b18.mono Lb.out.size))
  have zb_18 := Lib.hid ((b18.block _ (lt_of_blockR zb.out)).trans zb.out)
  clear b18
  go_wp2_with fail
  refine (K.out.OI _ L18.out).mono ?_
  rintro e w19 ⟨rfl, rfl⟩
  go_wp2_with fail
  refine (K.out.OS _ L18.out).mono ?_
  rintro e w20 ⟨rfl, b20⟩
  have L20 := Lib.hid (L18.out.trans (b20.mono L18.out.size))
  have zb_20 := Lib.hid ((b20.block _ (lt_of_blockR zb_18.out)).trans zb_18.out)
  clear b20
  go_wp2_with fail
  refine (K.out.DI _ L20.out).mono ?_
  rintro e w21 ⟨rfl, rfl⟩
  go_wp2_with fail
  refine (K.out.DF _ L20.out).mono ?_
  rintro e w22 ⟨rfl, b22⟩
  have L22 := Lib.hid (L20.out.trans (b22.mono L20.out.size))
  have zb_22 := Lib.hid ((b22.block _ (lt_of_blockR zb_20.out)).trans zb_20.out)
  clear b22
  go_wp2_with fail
  refine (K.out.DI _ L22.out).mono ?_
  rintro e w23 ⟨rfl, rfl⟩
  go_wp2_with fail
  refine (K.out.DS _ L22.out).mono ?_
  rintro e w24 ⟨rfl, b24⟩
  have L24 := Lib.hid (L22.out.trans (b24.mono L22.out.size))
  have zb_24 := Lib.hid ((b24.block _ (lt_of_blockR zb_22.out)).trans zb_22.out)
  clear b24
  go_wp2
  go_ret
  exact ⟨rfl, L24.out⟩
set_option maxHeartbeats 4000000 in
set_option maxRecDepth 100000 in
theorem namesCG (a0 a1 : Option Addr) (n0 c0 n1 c1 : Nat) (w : World) (k0 k1 k3 m0 m1 m2 m3 m4 sI v : Int) (tb : Bool) (o f gr : Int) (y : Bool) (r c gv gc : Int) (X Y Z : ByteArray) (h0 : (n0 : Int) ≤ 1048576) (h1 : (n1 : Int) ≤ 1048576)
    (p0 : 0 ≤ k0) (p1 : k0 ≤ 43) (p2 : 0 ≤ m1) (p3 : m1 ≤ 3) (ht : (m2 == 1) = tb) (hs : (sI == 1) = true) (hm : (m0 == 0) = true) (hc : (c == 0) = true) (hgr : 0 < gr)
    (K : Hid (NamesK w (.slice a0 n0 c0) (.slice a1 n1 c1) k0 k1 k3 m0 m1 m2 m3 m4 sI (16 + m1) v tb o f gr y r c gv gc X Y Z)) :
    Calls Tryd.prog 3 #[.slice a0 n0 c0, .slice a1 n1 c1] w fun e w' => e = .returned (.bool true) ∧ Below w.heap.size w w' := by
  have L0 := Lib.hid (Below.refl w.heap.size w)
  go_enter Tryd.func3, Tryd.ntmps3
  go_wp2_with fail
  refine (K.out.A0 _ L0.out).mono ?_
  rintro e w1 ⟨rfl, b1⟩
  have L1 := Lib.hid (L0.out.trans (b1.mono L0.out.size))
  clear b1
  go_wp2_with fail
  refine (K.out.A1 _ L1.out).mono ?_
  rintro e w2 ⟨rfl, b2⟩
  have L2 := Lib.hid (L1.out.trans (b2.mono L1.out.size))
  clear b2
  go_wp2_with fail
  refine (K.out.SZ _ L2.out).mono ?_
  rintro e w3 ⟨rfl, b3⟩
  have L3 := Lib.hid (L2.out.trans (b3.mono L2.out.size))
  clear b3
  go_wp2_with fail
  refine (K.out.A3 _ L3.out).mono ?_
  rintro e w4 ⟨rfl, b4⟩
  have L4 := Lib.hid (L3.out.trans (b4.mono L3.out.size))
  clear b4
  go_wp2_with fail
  refine (K.out.B0 _ L4.out).mono ?_
  rintro e w5 ⟨rfl, b5⟩
  have L5 := Lib.hid (L4.out.trans (b5.mono L4.out.size))
  clear b5
  go_wp2_with fail
  refine (K.out.B1 _ L5.out).mono ?_
  rintro e w6 ⟨rfl, b6⟩
  have L6 := Lib.hid (L5.out.trans (b6.mono L5.out.size))
  clear b6
  go_wp2_with fail
  refine (K.out.RN _ L6.out).mono ?_
  rintro e w7 ⟨rfl, rfl⟩
  go_wp2_with fail
  refine (K.out.RO _ L6.out).mono ?_
  rintro e w8 ⟨rfl, b8⟩
  have L8 := Lib.hid (L6.out.trans (b8.mono L6.out.size))
  clear b8
  go_wp2_with fail
  refine (K.out.CI _ L8.out).mono ?_
  rintro e w9 ⟨rfl, rfl⟩
  go_wp2_with fail
  refine (K.out.CS _ L8.out).mono ?_
  rintro e w10 ⟨rfl, rfl⟩
  go_wp2_with fail
  refine (K.out.B2 _ L8.out).mono ?_
  rintro e w11 ⟨rfl, b11⟩
  have L11 := Lib.hid (L8.out.trans (b11.mono L8.out.size))
  clear b11
  go_wp2_with fail
  refine (K.out.B3 _ L11.out).mono ?_
  rintro e w12 ⟨rfl, b12⟩
  have L12 := Lib.hid (L11.out.trans (b12.mono L11.out.size))
  clear b12
  go_wp2_with fail
  refine (K.out.HI _ L12.out).mono ?_
  rintro e w13 ⟨rfl, b13⟩
  have L13 := Lib.hid (L12.out.trans (b13.mono L12.out.size))
  clear b13
  have La := Lib.hid (L13.out.alloc L13.out.size (.cells #[.int .i64 o, .int .i64 f, .int .i64 gr, .bool y, .int .i64 r] 31))
  have za := Lib.hid (heap_alloc_new w13 (.cells #[.int .i64 o, .int .i64 f, .int .i64 gr, .bool y, .int .i64 r] 31))
  go_wp2_with fail
  refine (K.out.B2 _ La.out).mono ?_
  rintro e w14 ⟨rfl, b14⟩
  have L14 := Lib.hid (La.out.trans (b14.mono La.out.size))
  have za_14 := Lib.hid ((b14.block _ (lt_of_blockR za.out)).trans za.out)
  clear b14
  go_wp2_with fail
  refine (K.out.B3 _ L14.out).mono ?_
  rintro e w15 ⟨rfl, b15⟩
  have L15 := Lib.hid (L14.out.trans (b15.mono L14.out.size))
  have za_15 := Lib.hid ((b15.block _ (lt_of_blockR za_14.out)).trans za_14.out)
  clear b15
  go_wp2_with fail
  refine (K.out.HS _ L15.out).mono ?_
  rintro e w16 ⟨rfl, b16⟩
  have L16 := Lib.hid (L15.out.trans (b16.mono L15.out.size))
  have za_16 := Lib.hid ((b16.block _ (lt_of_blockR za_15.out)).trans za_15.out)
  clear b16
  have Lb := Lib.hid (L16.out.alloc L16.out.size (.cells #[.int .i64 o, .int .i64 f, .int .i64 gr, .bool y, .int .i64 r] 31))
  have zb := Lib.hid ((Below.heap_alloc w16 (.cells #[.int .i64 o, .int .i64 f, .int .i64 gr, .bool y, .int .i64 r] 31) _ (lt_of_blockR za_16.out)).trans za_16.out)
  have q0 : (w16.alloc (.cells #[.int .i64 o, .int .i64 f, .int .i64 gr, .bool y, .int .i64 r] 31)).cell? ⟨w13.heap.size, 0, none⟩ = some (.int .i64 o) := cell_row5 zb.out 0
  have q1 : (w16.alloc (.cells #[.int .i64 o, .int .i64 f, .int .i64 gr, .bool y, .int .i64 r] 31)).cell? ⟨w13.heap.size, 1, none⟩ = some (.int .i64 f) := cell_row5 zb.out 1
  have q2 : (w16.alloc (.cells #[.int .i64 o, .int .i64 f, .int .i64 gr, .bool y, .int .i64 r] 31)).cell? ⟨w13.heap.size, 2, none⟩ = some (.int .i64 gr) := cell_row5 zb.out 2
  have q3 : (w16.alloc (.cells #[.int .i64 o, .int .i64 f, .int .i64 gr, .bool y, .int .i64 r] 31)).cell? ⟨w13.heap.size, 3, none⟩ = some (.bool y) := cell_row5 zb.out 3
  have q4 : (w16.alloc (.cells #[.int .i64 o, .int .i64 f, .int .i64 gr, .bool y, .int .i64 r] 31)).cell? ⟨w13.heap.size, 4, none⟩ = some (.int .i64 r) := cell_row5 zb.out 4
  go_wp2_with fail
  go_region_with (first | (go_at_call 12; (with_reducible refine Calls.mono (K.out.B4 _ (below_dr Lb.out)) ?_); rintro e wa ⟨rfl, ba⟩; have Lc := Lib.hid ((below_dr Lb.out).trans (ba.mono (below_dr Lb.out).size)); have q2a := (ba.cell (p := ⟨w13.heap.size, 2, none⟩) (lt_of_blockR zb.out)).trans q2; have zc := Lib.hid ((ba.block _ (lt_of_blockR zb.out)).trans zb.out)) | (go_at_call 20; (with_reducible refine Calls.mono (K.out.GI hgr _ Lc.out) ?_); rintro e wb ⟨rfl, rfl⟩))
  all_goals
    clear ba q0 q1 q2 q3 q4
    go_wp2_with fail
    go_region_with (first | (go_at_call 12; (with_reducible refine Calls.mono (K.out.B4 _ (below_dr Lc.out)) ?_); rintro e wd ⟨rfl, bd⟩; have Ld := Lib.hid ((below_dr Lc.out).trans (bd.mono (below_dr Lc.out).size)); have q2b := (bd.cell (p := ⟨w13.heap.size, 2, none⟩) (lt_of_blockR zc.out)).trans q2a; clear bd) | (go_at_call 21; (with_reducible refine Calls.mono (K.out.GS hgr _ Ld.out) ?_); rintro e wf ⟨rfl, bf⟩; have Le := Lib.hid (Ld.out.trans (bf.mono Ld.out.size)); clear bf))
    all_goals
      clear q2a q2b
      go_wp2_with fail
      refine (K.out.OI _ Le.out).mono ?_
      rintro e w17 ⟨rfl, rfl⟩
      go_wp2_with fail
      refine (K.out.OF _ Le.out).mono ?_
      rintro e w18 ⟨rfl, b18⟩
      have L18 := Lib.hid (Le.out.trans (b18.mono Le.out.size))
      clear b18
      go_wp2_with fail
      refine (K.out.OI _ L18.out).mono ?_
      rintro e w19 ⟨rfl, rfl⟩
      go_wp2_with fail
      refine (K.out.OS _ L18.out).mono ?_
      rintro e w20 ⟨rfl, b20⟩
      have L20 := Lib.hid (L18.out.trans (b20.mono L18.out.size))
      clear b20
      go_wp2_with fail
      refine (K.out.DI _ L20.out).mono ?_
      rintro e w21 ⟨rfl, rfl⟩
      go_wp2_with fail
      refine (K.out.DF _ L20.out).mono ?_
      rintro e w22 ⟨rfl, b22⟩
      have L22 := Lib.hid (L20.out.trans (b22.mono L20.out.size))
      clear b22
      go_wp2_with fail
      refine (K.out.DI _ L22.out).mono ?_
      rintro e w23 ⟨rfl, rfl⟩
      go_wp2_with fail
      refine (K.out.DS _ L22.out).mono ?_
      rintro e w24 ⟨rfl, b24⟩
      have L24 := Lib.hid (L22.out.trans (b24.mono L22.out.size))
      clear b24
      go_wp2
      go_ret
      exact ⟨rfl, L24.out⟩
end Go.Proofs.YtdfmchknpiodkaaDoor
