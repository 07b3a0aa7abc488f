/-
  A box as a processor, a memory's value, numbers and two texts; no condition but those in each head.
-/
import Derived.Test.YtbkgmpkednkbcaaGreatDoorMathCpu
namespace Go.Proofs.YtbkgmpkednkbcaaGreatDoor
open Go.RowKit Go.ChangeShapes Go.WideShapes Go.Deep Go.Joins
structure Bo where
  c : Cp
  hp : Int
  bk : Int
  inp : ByteArray
  at_ : Int
  out_ : ByteArray
  ck : Int
  sd : Int
  st : Int
  co : Int
  ft : Int
  wh : Int
def boV (b : Bo) (m : Value) : Array Value := #[.int .i64 (b.c.rs 0), .int .i64 (b.c.rs 1), .int .i64 (b.c.rs 2), .int .i64 (b.c.rs 3), .int .i64 (b.c.rs 4), .int .i64 (b.c.rs 5), .int .i64 (b.c.rs 6), .int .i64 (b.c.rs 7), .int .i64 (b.c.rs 8), .int .i64 (b.c.rs 9), .int .i64 (b.c.rs 10), .int .i64 (b.c.rs 11), .int .i64 (b.c.rs 12), .int .i64 (b.c.rs 13), .int .i64 (b.c.rs 14), .int .i64 (b.c.rs 15), .int .i64 b.c.ip, .int .i64 b.c.fl, m, .int .i64 b.hp, .int .i64 b.bk, .string b.inp, .int .i64 b.at_, .string b.out_, .int .i64 b.ck, .int .i64 b.sd, .int .i64 b.st, .int .i64 b.co, .int .i64 b.ft, .int .i64 b.wh]
/-- all numbers of a box are of 64 bits, its texts are none of the longest -/
structure BoW (b : Bo) : Prop where
  c : CpW b.c
  hp : (Lit.int .i64 b.hp).wf = true
  bk : (Lit.int .i64 b.bk).wf = true
  inp : b.inp.size ≤ maxLen
  at_ : (Lit.int .i64 b.at_).wf = true
  out_ : b.out_.size ≤ maxLen
  ck : (Lit.int .i64 b.ck).wf = true
  sd : (Lit.int .i64 b.sd).wf = true
  st : (Lit.int .i64 b.st).wf = true
  co : (Lit.int .i64 b.co).wf = true
  ft : (Lit.int .i64 b.ft).wf = true
  wh : (Lit.int .i64 b.wh).wf = true
theorem boV_size (b : Bo) (m : Value) : (boV b m).size = 30 := rfl
theorem boV_one (b : Bo) (q : Option Addr) (n k : Nat) : (boV b (.slice q n k)).all (·.oneCell') = true := by simp [boV, Value.oneCell']
theorem array30 {α : Type} {a : Array α} (h : a.size = 30) : ∃ x0 x1 x2 x3 x4 x5 x6 x7 x8 x9 x10 x11 x12 x13 x14 x15 x16 x17 x18 x19 x20 x21 x22 x23 x24 x25 x26 x27 x28 x29, a = #[x0, x1, x2, x3, x4, x5, x6, x7, x8, x9, x10, x11, x12, x13, x14, x15, x16, x17, x18, x19, x20, x21, x22, x23, x24, x25, x26, x27, x28, x29] := by
  match a, h with
  | ⟨[x0, x1, x2, x3, x4, x5, x6, x7, x8, x9, x10, x11, x12, x13, x14, x15, x16, x17, x18, x19, x20, x21, x22, x23, x24, x25, x26, x27, x28, x29]⟩, _ => exact ⟨x0, x1, x2, x3, x4, x5, x6, x7, x8, x9, x10, x11, x12, x13, x14, x15, x16, x17, x18, x19, x20, x21, x22, x23, x24, x25, x26, x27, x28, x29, rfl⟩
theorem boV_cpu (b : Bo) (m : Value) : (boV b m).toList.take 18 = (cpV b.c).toList := rfl
end Go.Proofs.YtbkgmpkednkbcaaGreatDoor
