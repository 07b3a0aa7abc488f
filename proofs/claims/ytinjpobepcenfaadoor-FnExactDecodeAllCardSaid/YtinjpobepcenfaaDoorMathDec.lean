/-
  What bytes of a text are as an instruction, by the document's chapter 5: prefixes, operation, ModRM, size, operands; no condition but those in each head.
-/
import Derived.Test.YtinjpobepcenfaaDoorMathOpd
import Derived.Test.YtinjpobepcenfaaDoorMathShape
import Derived.Test.YtinjpobepcenfaaDoorMathTake
import Derived.Test.YtinjpobepcenfaaDoorMathSign
namespace Go.Proofs.YtinjpobepcenfaaDoor
open Go.RowKit
/-- what a bit of REX adds to a register -/
def extB (rex k : Nat) : Nat := if rex / 2 ^ k % 2 = 1 then 8 else 0
/-- the number of k bytes at n, with its sign -/
def sgV (s : ByteArray) (n k : Nat) : Int := wrap64 (sgnU (takeN s n k) k : Int)
/-- a register's operand: upper halves where there is no REX -/
def bReg (r : Nat) (sz : Int) (rex : Nat) : Opd := if sz = 1 ∧ rex = 0 ∧ 4 ≤ r then regOpd ((r : Int) + 12) else regOpd r
/-- memory with a displacement of k bytes at n -/
def dispD (s : ByteArray) (n k : Nat) (b i c : Int) : Option (Opd × Nat) := if n + k ≤ s.size then some (memOpd b i c (if k = 0 then 0 else sgV s n k), n + k) else none
def modK (md : Nat) : Nat := if md = 1 then 1 else if md = 2 then 4 else 0
def sibI (b rex : Nat) : Int := if b / 8 % 8 + extB rex 1 = 4 then -1 else ((b / 8 % 8 + extB rex 1 : Nat) : Int)
def sibS (b rex : Nat) : Int := if b / 8 % 8 + extB rex 1 = 4 then 1 else 2 ^ (b / 64)
/-- memory behind ModRM -/
def memD (s : ByteArray) (n md rm rex : Nat) : Option (Opd × Nat) :=
  if rm = 4 then
    if n < s.size then
      if md = 0 ∧ nb s n % 8 = 5 then dispD s (n + 1) 4 (-1) (sibI (nb s n) rex) (sibS (nb s n) rex)
      else dispD s (n + 1) (modK md) ((nb s n % 8 + extB rex 0 : Nat) : Int) (sibI (nb s n) rex) (sibS (nb s n) rex)
    else none
  else if md = 0 ∧ rm = 5 then dispD s n 4 16 (-1) 1
  else dispD s n (modK md) ((rm + extB rex 0 : Nat) : Int) (-1) 1
/-- the place that ModRM tells -/
def placeD (s : ByteArray) (n md rm rex : Nat) (sz : Int) : Option (Opd × Nat) := if md = 3 then some (bReg (rm + extB rex 0) sz rex, n) else memD s n md rm rex
/-- a number of k bytes with its sign, and one of a byte without it -/
def numD (s : ByteArray) (n k : Nat) : Option (Opd × Nat) := if n + k ≤ s.size then some (immOpd (sgV s n k), n + k) else none
def numU (s : ByteArray) (n : Nat) : Option (Opd × Nat) := if n + 1 ≤ s.size then some (immOpd (nb s n), n + 1) else none
def minK (sz : Int) : Nat := (min sz 4).toNat
/-- one operand that goes to Src -/
def srcOp (op : Int) : Prop := op = 13 ∨ op = 14 ∨ op = 15 ∨ op = 16 ∨ op = 31 ∨ op = 32 ∨ op = 29
instance (op : Int) : Decidable (srcOp op) := by unfold srcOp; infer_instance
/-- a place, then something -/
def thenD {α β : Type} (a : Option (α × Nat)) (f : α → Nat → Option β) : Option β := match a with | some (x, n) => f x n | none => none
/-- the operands of a form, and where they end -/
def operD (s : ByteArray) (n : Nat) (f op sz fr : Int) (md rg rm rex b : Nat) : Option ((Opd × Opd) × Nat) :=
  if f = 1 then thenD (placeD s n md rm rex sz) fun p n => some ((p, bReg (rg + extB rex 2) sz rex), n)
  else if f = 2 then thenD (placeD s n md rm rex sz) fun p n => some ((bReg (rg + extB rex 2) sz rex, p), n)
  else if f = 17 then thenD (placeD s n md rm rex fr) fun p n => some ((bReg (rg + extB rex 2) sz rex, p), n)
  else if f = 3 then thenD (numD s n (minK sz)) fun x n => some ((regOpd 0, x), n)
  else if f = 5 then thenD (placeD s n md rm rex sz) fun p n => thenD (numD s n (minK sz)) fun x n => some ((p, x), n)
  else if f = 4 then thenD (placeD s n md rm rex sz) fun p n => thenD (numD s n 1) fun x n => some ((p, x), n)
  else if f = 11 then thenD (placeD s n md rm rex sz) fun p n => thenD (numU s n) fun x n => some ((p, x), n)
  else if f = 12 then thenD (placeD s n md rm rex sz) fun p n => some ((p, immOpd 1), n)
  else if f = 13 then thenD (placeD s n md rm rex sz) fun p n => some ((p, regOpd 1), n)
  else if f = 8 then thenD (numD s n sz.toNat) fun x n => some ((bReg (b % 8 + extB rex 0) sz rex, x), n)
  else if f = 9 then thenD (numD s n 1) fun x n => some ((noOpd, x), n)
  else if f = 15 then if op = 44 then thenD (numU s n) fun x n => some ((noOpd, x), n) else thenD (numD s n 1) fun x n => some ((noOpd, x), n)
  else if f = 10 ∨ f = 16 then thenD (numD s n 4) fun x n => some ((noOpd, x), n)
  else if f = 6 then thenD (placeD s n md rm rex sz) fun p n => if srcOp op then some ((noOpd, p), n) else if op = 10 then thenD (numD s n (minK sz)) fun x n => some ((p, x), n) else some ((p, noOpd), n)
  else if f = 7 then if op = 29 then some ((noOpd, regOpd ((b % 8 + extB rex 0 : Nat) : Int)), n) else some ((regOpd ((b % 8 + extB rex 0 : Nat) : Int), noOpd), n)
  else some ((noOpd, noOpd), n)
/-- prefixes: 102 or not, REX, where they end; or a code -/
def isPre (b : Nat) : Prop := b = 38 ∨ b = 46 ∨ b = 54 ∨ b = 62 ∨ b = 100 ∨ b = 101 ∨ b = 103 ∨ b = 240 ∨ b = 242 ∨ b = 243
instance (b : Nat) : Decidable (isPre b) := by unfold isPre; infer_instance
def rexD (s : ByteArray) (n : Nat) (w : Bool) : Except Int (Bool × Nat × Nat) :=
  if n < s.size then
    if nb s n = 102 ∨ isPre (nb s n) then .error 10
    else if 64 ≤ nb s n ∧ nb s n ≤ 79 then .ok (w, nb s n, n + 1) else .ok (w, 0, n)
  else .error 9
def prefD (s : ByteArray) (n : Nat) : Except Int (Bool × Nat × Nat) :=
  if n < s.size then if nb s n = 102 then rexD s (n + 1) true else rexD s n false else .error 9
def shapeD (t : Bool) (b : Nat) : Shp := if t then shape2 b else shape1 b
/-- the operation's bytes: the last of them, its shape, where they end; or a code -/
def opcD (s : ByteArray) (n : Nat) : Except Int (Nat × Shp × Nat) :=
  if n < s.size then
    if nb s n = 15 then
      if n + 1 < s.size then if (shapeD true (nb s (n + 1))).f = 0 then .error 11 else .ok (nb s (n + 1), shapeD true (nb s (n + 1)), n + 2)
      else .error 9
    else if (shapeD false (nb s n)).f = 0 then .error 11 else .ok (nb s n, shapeD false (nb s n), n + 1)
  else .error 9
def hasM (f : Int) : Prop := f = 1 ∨ f = 2 ∨ f = 4 ∨ f = 5 ∨ f = 6 ∨ f = 11 ∨ f = 12 ∨ f = 13 ∨ f = 17
instance (f : Int) : Decidable (hasM f) := by unfold hasM; infer_instance
end Go.Proofs.YtinjpobepcenfaaDoor
