/-
  What the functions of impl/l06_flags.go for numbers of 1, 2, 4 and 8 bytes do: sums, differences, bits, and their flags; conditions: those in each head.
-/
import Derived.Test.YtbcbepdfijcbmaaDoorWalkHolds
import Derived.Test.YtbcbepdfijcbmaaDoorWalkSign
import Derived.Test.YtbcbepdfijcbmaaDoorMathAl
import Derived.Test.YtbcbepdfijcbmaaDoorShelf
import Derived.Laws.Tables
import Derived.Laws.CopyOwn
import Derived.Laws.NewBlocks
namespace Go.Proofs.YtbcbepdfijcbmaaDoor
open Go.RowKit
set_option linter.unusedVariables false
set_option linter.unusedSimpArgs false
theorem ret_k {k : IntKind} {a b : Int} (h : a = b) : Ending.returned (.int k a) = .returned (.int k b) := by rw [h]
theorem ret_kt {k : IntKind} {a b : Int} {c d : Int} (h : a = b) (h2 : c = d) : Ending.returned (.tuple #[.int k a, .int .i64 c]) = .returned (.tuple #[.int k b, .int .i64 d]) := by rw [h, h2]
theorem cst (w B : Nat) (h : (2 : Int) ^ w = (B : Int)) : (2 : Nat) ^ w = B := by have : ((2 ^ w : Nat) : Int) = (B : Int) := by simpa using h
                                                                                  omega
set_option maxHeartbeats 400000 in
theorem flagIfC (f : Int) (b : Bool) (w : World) : Calls Tryd.prog 87 #[.int .i64 f, .bool b] w fun e w' => e = .returned (.int .i64 (bif b then f else 0)) ∧ w = w' := by
  cases b
  all_goals
    go_enter Tryd.func87, Tryd.ntmps87
    go_wp2
    go_ret
    exact ⟨rfl, rfl⟩
/-- what withCarry makes of flags -/
def wCar (f : Int) (a b : Bool) : Int := bits .or .i64 (bits .or .i64 (bits .andNot .i64 f 2049) (bif a then 1 else 0)) (bif b then 2048 else 0)
theorem wCar_eq (c p z s o a b : Bool) : wCar (flV c p z s o) a b = flV a p z s b := or5 a p z s b _ (.inr ⟨c, o, rfl⟩)
set_option maxHeartbeats 400000 in
theorem withCarryC (f : Int) (a b : Bool) (w : World) : Calls Tryd.prog 61 #[.int .i64 f, .bool a, .bool b] w fun e w' => e = .returned (.int .i64 (wCar f a b)) ∧ w = w' := by
  have CF := Lib.hid flagIfC
  go_enter Tryd.func61, Tryd.ntmps61
  go_wp2_with fail
  refine (CF.out _ _ _).mono ?_
  rintro e w1 ⟨rfl, rfl⟩
  go_wp2_with fail
  refine (CF.out _ _ _).mono ?_
  rintro e w1 ⟨rfl, rfl⟩
  go_wp2
  go_ret
  exact ⟨rfl, rfl⟩
theorem par_cast (n : Nat) : (((n : Int) % 2) == 0) = (n % 2 == 0) := by
  rcases (by omega : n % 2 = 0 ∨ n % 2 = 1) with h | h
  · rw [h, show ((n : Int) % 2) = 0 by omega]; rfl
  · rw [h, show ((n : Int) % 2) = 1 by omega]; rfl
theorem mod_nat {x : Int} (h : 0 ≤ x) : (x % 256).toNat = x.toNat % 256 := by omega
end Go.Proofs.YtbcbepdfijcbmaaDoor
