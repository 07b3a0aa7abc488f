/-
  Operands of instructions: their cells, and which are right for a size; no condition but those in each head.
  An instruction and its cells; no condition.
-/
import Derived.Test.YtjnjlgaemmdkhaaGreatDoorProg
import Derived.WalkKit
import Derived.Lib.Hide
import Derived.Laws.StructEq
namespace Go.Proofs.YtjnjlgaemmdkhaaGreatDoor
open Go.RowKit
/-- an operand: kind, register, base, index, scale, displacement, number -/
structure Opd where
  k : Int
  r : Int
  b : Int
  i : Int
  s : Int
  d : Int
  m : Int
  deriving DecidableEq
def opdL (x : Opd) : List Value := [.int .i64 x.k, .int .i64 x.r, .int .i64 x.b, .int .i64 x.i, .int .i64 x.s, .int .i64 x.d, .int .i64 x.m]
def noOpd : Opd := ⟨0, 0, 0, 0, 0, 0, 0⟩
def regOpd (n : Int) : Opd := ⟨1, n, 0, 0, 0, 0, 0⟩
def immOpd (n : Int) : Opd := ⟨3, 0, 0, 0, 0, 0, n⟩
def memOpd (b i s d : Int) : Opd := ⟨2, 0, b, i, s, d, 0⟩
/-- memory that an operand may be -/
def MemOk' (x : Opd) : Prop := x.r = 0 ∧ x.m = 0 ∧ (-1 ≤ x.b ∧ x.b ≤ 16) ∧ (-1 ≤ x.i ∧ x.i ≤ 15) ∧ x.i ≠ 4 ∧ (x.s = 1 ∨ x.s = 2 ∨ x.s = 4 ∨ x.s = 8) ∧ (-2147483648 ≤ x.d ∧ x.d ≤ 2147483647) ∧ (0 ≤ x.i ∨ x.s = 1) ∧ (x.b ≠ 16 ∨ x.i < 0)
instance (x : Opd) : Decidable (MemOk' x) := by unfold MemOk'; infer_instance
/-- the highest register of a size -/
def topReg (z : Int) : Int := if z = 1 then 19 else 15
/-- what an operand of a size may be -/
def OpdOk (x : Opd) (z : Int) : Prop := (z = 1 ∨ z = 2 ∨ z = 4 ∨ z = 8) ∧
  if x.k = 1 then x = regOpd x.r ∧ 0 ≤ x.r ∧ x.r ≤ topReg z else if x.k = 2 then MemOk' x else if x.k = 3 then x = immOpd x.m else x = noOpd
instance (x : Opd) (z : Int) : Decidable (OpdOk x z) := by unfold OpdOk; infer_instance
def opdB (x : Opd) (z : Int) : Bool := decide (OpdOk x z)
theorem opd_beq (x y : Opd) : (x.k == y.k && (x.r == y.r && (x.b == y.b && (x.i == y.i && (x.s == y.s && (x.d == y.d && x.m == y.m)))))) = decide (x = y) := by
  obtain ⟨a0, a1, a2, a3, a4, a5, a6⟩ := x
  obtain ⟨b0, b1, b2, b3, b4, b5, b6⟩ := y
  simp only [Opd.mk.injEq]
  by_cases h0 : a0 = b0 <;> by_cases h1 : a1 = b1 <;> by_cases h2 : a2 = b2 <;> by_cases h3 : a3 = b3 <;> by_cases h4 : a4 = b4 <;> by_cases h5 : a5 = b5 <;> by_cases h6 : a6 = b6 <;> simp [h0, h1, h2, h3, h4, h5, h6]
set_option maxHeartbeats 400000 in
/-- two operands, compared by the program -/
theorem run_eql_opd (x y : Opd) (w : World) : (binOp .eql 31 (.agg (opdL x).toArray) (.agg (opdL y).toArray)).run Tryz.prog w = .ok (.bool (decide (x = y))) w := by
  have u3 := Tryz.underlying3
  have a3 := Tryz.isAgg3
  have z3 := Tryz.sizeOf3
  have hS : Tryz.prog.underlying 31 = some (.struct (Tryz.prog.fieldsOf 31)) := by kernel_rfl
  have hp : Tryz.prog.stoodInHeld 31 = false := by kernel_rfl
  rw [← opd_beq]
  simp only [opdL]
  rw [run_eql_struct, show (10000 : Nat) = 9999 + 1 from rfl, run_equalIn_agg w 9999 31 _ _ hS hp]
  simp only [Program.fieldsOf, Tryz.underlying31]
  go_simp
  by_cases h0 : x.k = y.k <;> by_cases h1 : x.r = y.r <;> by_cases h2 : x.b = y.b <;> by_cases h3 : x.i = y.i <;> by_cases h4 : x.s = y.s <;> by_cases h5 : x.d = y.d <;> by_cases h6 : x.m = y.m <;> simp [h0, h1, h2, h3, h4, h5, h6]
end Go.Proofs.YtjnjlgaemmdkhaaGreatDoor
namespace Go.Proofs.YtjnjlgaemmdkhaaGreatDoor
open Go.RowKit
/-- an instruction's cells -/
def insA (op sz cd fr : Int) (d s : Opd) (ln : Int) : Array Value := #[.int .i64 op, .int .i64 sz, .int .i64 cd, .int .i64 fr,
  .int .i64 d.k, .int .i64 d.r, .int .i64 d.b, .int .i64 d.i, .int .i64 d.s, .int .i64 d.d, .int .i64 d.m, .int .i64 s.k, .int .i64 s.r, .int .i64 s.b, .int .i64 s.i, .int .i64 s.s, .int .i64 s.d, .int .i64 s.m, .int .i64 ln]
def zIns : Array Value := insA 0 0 0 0 noOpd noOpd 0
theorem ins_one (op sz cd fr : Int) (d s : Opd) (ln : Int) : (insA op sz cd fr d s ln).all (·.oneCell') = true := by kernel_rfl
/-- an instruction -/
structure Ins where
  op : Int
  sz : Int
  cd : Int
  fr : Int
  d : Opd
  s : Opd
  ln : Int
def insV (x : Ins) : Array Value := insA x.op x.sz x.cd x.fr x.d x.s x.ln
theorem insV_one (x : Ins) : (insV x).all (·.oneCell') = true := ins_one _ _ _ _ _ _ _
theorem insV_size (x : Ins) : (insV x).size = 19 := rfl
end Go.Proofs.YtjnjlgaemmdkhaaGreatDoor
