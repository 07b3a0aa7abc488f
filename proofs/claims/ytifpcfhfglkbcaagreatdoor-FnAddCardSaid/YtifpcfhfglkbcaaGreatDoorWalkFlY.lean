/-
  What FlagsOf and One of impl and of spec answer; conditions: those in each head.
-/
import Derived.Test.YtifpcfhfglkbcaaGreatDoorWalkFlX
import Derived.Test.YtifpcfhfglkbcaaGreatDoorWalkFlC16
import Derived.Test.YtifpcfhfglkbcaaGreatDoorWalkFlC32
import Derived.Test.YtifpcfhfglkbcaaGreatDoorWalkFlC64
namespace Go.Proofs.YtifpcfhfglkbcaaGreatDoor
open Go.RowKit
set_option linter.unusedVariables false
set_option linter.unusedSimpArgs false
set_option maxHeartbeats 400000 in
theorem look_u8 (op a b f : Int) (X : Nat) (w : World) (ha : IntKind.u64.wrap a = (X : Int)) : Calls Tryz.prog 44 #[.int .i64 op, .int .i64 a, .int .i64 b, .int .i64 f] w fun e w' => e = .returned (.tuple #[.int .i64 0, .int .i64 (szp 8 (X % 2 ^ 8)), .int .i64 0]) ∧ Below w.heap.size w w' := by
  have eA := Lib.hid (low_u8 (A := X % 2 ^ 8) ha rfl)
  have lA : X % 2 ^ 8 < 2 ^ 8 := Nat.mod_lt _ (by decide)
  have CF := Lib.hid (fun w => flagsOf_u8 (a % 256) (by rw [← eA.out]; omega) (by rw [← eA.out]; omega) w)
  clear ha lA
  go_enter Tryz.func44, Tryz.ntmps44
  go_wp2_with fail
  refine (CF.out _).mono ?_
  rintro e w1 ⟨rfl, rfl⟩
  go_wp2
  go_ret3
  refine ⟨?_, Below.refl _ _⟩
  rw [szp_eq (w := 8) (by decide +kernel) eA.out.symm]
  rfl
set_option maxHeartbeats 400000 in
theorem look_u16 (op a b f : Int) (X : Nat) (w : World) (ha : IntKind.u64.wrap a = (X : Int)) : Calls Tryz.prog 45 #[.int .i64 op, .int .i64 a, .int .i64 b, .int .i64 f] w fun e w' => e = .returned (.tuple #[.int .i64 0, .int .i64 (szp 16 (X % 2 ^ 16)), .int .i64 0]) ∧ Below w.heap.size w w' := by
  have eA := Lib.hid (low_u16 (A := X % 2 ^ 16) ha rfl)
  have lA : X % 2 ^ 16 < 2 ^ 16 := Nat.mod_lt _ (by decide)
  have CF := Lib.hid (fun w => flagsOf_u16 (IntKind.u16.wrap a) (by rw [← eA.out]; omega) (by rw [← eA.out]; omega) w)
  clear ha lA
  go_enter Tryz.func45, Tryz.ntmps45
  go_wp2_with fail
  refine (CF.out _).mono ?_
  rintro e w1 ⟨rfl, rfl⟩
  go_wp2
  go_ret3
  refine ⟨?_, Below.refl _ _⟩
  rw [szp_eq (w := 16) (by decide +kernel) eA.out.symm]
  rfl
set_option maxHeartbeats 400000 in
theorem look_u32 (op a b f : Int) (X : Nat) (w : World) (ha : IntKind.u64.wrap a = (X : Int)) : Calls Tryz.prog 46 #[.int .i64 op, .int .i64 a, .int .i64 b, .int .i64 f] w fun e w' => e = .returned (.tuple #[.int .i64 0, .int .i64 (szp 32 (X % 2 ^ 32)), .int .i64 0]) ∧ Below w.heap.size w w' := by
  have eA := Lib.hid (low_u32 (A := X % 2 ^ 32) ha rfl)
  have lA : X % 2 ^ 32 < 2 ^ 32 := Nat.mod_lt _ (by decide)
  have CF := Lib.hid (fun w => flagsOf_u32 (a % 4294967296) (by rw [← eA.out]; omega) (by rw [← eA.out]; omega) w)
  clear ha lA
  go_enter Tryz.func46, Tryz.ntmps46
  go_wp2_with fail
  refine (CF.out _).mono ?_
  rintro e w1 ⟨rfl, rfl⟩
  go_wp2
  go_ret3
  refine ⟨?_, Below.refl _ _⟩
  rw [szp_eq (w := 32) (by decide +kernel) eA.out.symm]
  rfl
set_option maxHeartbeats 400000 in
theorem look_u64 (op a b f : Int) (X : Nat) (w : World) (ha : IntKind.u64.wrap a = (X : Int)) : Calls Tryz.prog 47 #[.int .i64 op, .int .i64 a, .int .i64 b, .int .i64 f] w fun e w' => e = .returned (.tuple #[.int .i64 0, .int .i64 (szp 64 (X % 2 ^ 64)), .int .i64 0]) ∧ Below w.heap.size w w' := by
  have eA := Lib.hid (low_u64 (A := X % 2 ^ 64) ha rfl)
  have lA : X % 2 ^ 64 < 2 ^ 64 := Nat.mod_lt _ (by decide)
  have CF := Lib.hid (fun w => flagsOf_u64 (IntKind.u64.wrap a) (by rw [← eA.out]; omega) (by rw [← eA.out]; omega) w)
  clear ha lA
  go_enter Tryz.func47, Tryz.ntmps47
  go_wp2_with fail
  refine (CF.out _).mono ?_
  rintro e w1 ⟨rfl, rfl⟩
  go_wp2
  go_ret3
  refine ⟨?_, Below.refl _ _⟩
  rw [szp_eq (w := 64) (by decide +kernel) eA.out.symm]
  rfl
set_option maxHeartbeats 1000000 in
theorem FlagsI_u8 (a : Int) (X : Nat) (w : World) (ha : IntKind.u64.wrap a = (X : Int)) : Calls Tryz.prog 17 #[.int .i64 1, .int .i64 a] w fun e w' => e = .returned (.tuple #[.int .i64 (szp 8 (X % 2 ^ 8)), .int .i64 0]) ∧ Below w.heap.size w w' := by
  have CC := Lib.hid (show ∀ w, Calls Tryz.prog 27 #[.agg #[.func (.func 44) #[] #[], .func (.func 45) #[] #[], .func (.func 46) #[] #[], .func (.func 47) #[] #[]], .int .i64 0, .int .i64 1, .int .i64 a, .int .i64 0, .int .i64 0] w fun e w' => e = .returned (.tuple #[.int .i64 0, .int .i64 (szp 8 (X % 2 ^ 8)), .int .i64 0]) ∧ Below w.heap.size w w' from fun w => call1 44 45 46 47 0 a 0 _ _ _ false false false false false w (by intro args w; kernel_rfl) (Lib.hid fun W => look_u8 0 a 0 _ X W ha))
  clear ha
  go_enter Tryz.func17, Tryz.ntmps17
  go_wp2_with fail
  refine (CC.out _).mono ?_
  rintro e w1 ⟨rfl, hb⟩
  have B1 := Lib.hid hb
  clear hb
  go_wp2
  go_ret2
  exact ⟨rfl, B1.out⟩
set_option maxHeartbeats 1000000 in
theorem FlagsI_u16 (a : Int) (X : Nat) (w : World) (ha : IntKind.u64.wrap a = (X : Int)) : Calls Tryz.prog 17 #[.int .i64 2, .int .i64 a] w fun e w' => e = .returned (.tuple #[.int .i64 (szp 16 (X % 2 ^ 16)), .int .i64 0]) ∧ Below w.heap.size w w' := by
  have CC := Lib.hid (show ∀ w, Calls Tryz.prog 27 #[.agg #[.func (.func 44) #[] #[], .func (.func 45) #[] #[], .func (.func 46) #[] #[], .func (.func 47) #[] #[]], .int .i64 0, .int .i64 2, .int .i64 a, .int .i64 0, .int .i64 0] w fun e w' => e = .returned (.tuple #[.int .i64 0, .int .i64 (szp 16 (X % 2 ^ 16)), .int .i64 0]) ∧ Below w.heap.size w w' from fun w => call2 44 45 46 47 0 a 0 _ _ _ false false false false false w (by intro args w; kernel_rfl) (Lib.hid fun W => look_u16 0 a 0 _ X W ha))
  clear ha
  go_enter Tryz.func17, Tryz.ntmps17
  go_wp2_with fail
  refine (CC.out _).mono ?_
  rintro e w1 ⟨rfl, hb⟩
  have B1 := Lib.hid hb
  clear hb
  go_wp2
  go_ret2
  exact ⟨rfl, B1.out⟩
set_option maxHeartbeats 1000000 in
theorem FlagsI_u32 (a : Int) (X : Nat) (w : World) (ha : IntKind.u64.wrap a = (X : Int)) : Calls Tryz.prog 17 #[.int .i64 4, .int .i64 a] w fun e w' => e = .returned (.tuple #[.int .i64 (szp 32 (X % 2 ^ 32)), .int .i64 0]) ∧ Below w.heap.size w w' := by
  have CC := Lib.hid (show ∀ w, Calls Tryz.prog 27 #[.agg #[.func (.func 44) #[] #[], .func (.func 45) #[] #[], .func (.func 46) #[] #[], .func (.func 47) #[] #[]], .int .i64 0, .int .i64 4, .int .i64 a, .int .i64 0, .int .i64 0] w fun e w' => e = .returned (.tuple #[.int .i64 0, .int .i64 (szp 32 (X % 2 ^ 32)), .int .i64 0]) ∧ Below w.heap.size w w' from fun w => call4 44 45 46 47 0 a 0 _ _ _ false false false false false w (by intro args w; kernel_rfl) (Lib.hid fun W => look_u32 0 a 0 _ X W ha))
  clear ha
  go_enter Tryz.func17, Tryz.ntmps17
  go_wp2_with fail
  refine (CC.out _).mono ?_
  rintro e w1 ⟨rfl, hb⟩
  have B1 := Lib.hid hb
  clear hb
  go_wp2
  go_ret2
  exact ⟨rfl, B1.out⟩
set_option maxHeartbeats 1000000 in
theorem FlagsI_u64 (a : Int) (X : Nat) (w : World) (ha : IntKind.u64.wrap a = (X : Int)) : Calls Tryz.prog 17 #[.int .i64 8, .int .i64 a] w fun e w' => e = .returned (.tuple #[.int .i64 (szp 64 (X % 2 ^ 64)), .int .i64 0]) ∧ Below w.heap.size w w' := by
  have CC := Lib.hid (show ∀ w, Calls Tryz.prog 27 #[.agg #[.func (.func 44) #[] #[], .func (.func 45) #[] #[], .func (.func 46) #[] #[], .func (.func 47) #[] #[]], .int .i64 0, .int .i64 8, .int .i64 a, .int .i64 0, .int .i64 0] w fun e w' => e = .returned (.tuple #[.int .i64 0, .int .i64 (szp 64 (X % 2 ^ 64)), .int .i64 0]) ∧ Below w.heap.size w w' from fun w => call8 44 45 46 47 0 a 0 _ _ _ false false false false false w (by intro args w; kernel_rfl) (Lib.hid fun W => look_u64 0 a 0 _ X W ha))
  clear ha
  go_enter Tryz.func17, Tryz.ntmps17
  go_wp2_with fail
  refine (CC.out _).mono ?_
  rintro e w1 ⟨rfl, hb⟩
  have B1 := Lib.hid hb
  clear hb
  go_wp2
  go_ret2
  exact ⟨rfl, B1.out⟩
set_option maxHeartbeats 1000000 in
theorem FlagsIBad (n a : Int) (w : World) (aR : Addr) (hs : SentF w aR) (h : ¬ okSize n) : Calls Tryz.prog 17 #[.int .i64 n, .int .i64 a] w fun e w' => e = .returned (.tuple #[.int .i64 0, .int .i64 4]) ∧ Below w.heap.size w w' := by
  have CC := Lib.hid (callBad 44 45 46 47 0 n a 0 0 w aR hs (by decide) (.inl h))
  clear h hs
  go_enter Tryz.func17, Tryz.ntmps17
  go_wp2_with fail
  refine (CC.out).mono ?_
  rintro e w1 ⟨rfl, hb⟩
  have B1 := Lib.hid hb
  clear hb
  go_wp2
  go_ret2
  exact ⟨rfl, B1.out⟩
/-- what an operation of one number makes of it -/
def oneN (w : Nat) (op : Int) (X : Nat) : Nat := if op = 11 then 2 ^ w - 1 - X else if op = 12 then difN w 0 X 0 else if op = 18 then sumN w X 1 0 else difN w X 1 0
def oneF (w : Nat) (op : Int) (X : Nat) (f : Int) : Int := if op = 11 then f else if op = 12 then difF w 0 X 0 else if op = 18 then keepF (sumF w X 1 0) f else keepF (difF w X 1 0) f
def OneOp (op : Int) : Prop := op = 11 ∨ op = 12 ∨ op = 18 ∨ op = 19
theorem oneAll_u8 (op a b f : Int) (X A : Nat) (w : World) (hop : OneOp op) (ha : IntKind.u64.wrap a = (X : Int)) (hA : A = X % 2 ^ 8) : Calls Tryz.prog 40 #[.int .i64 op, .int .i64 a, .int .i64 b, .int .i64 f] w fun e w' => e = .returned (.tuple #[.int .i64 (wrap64 ((oneN 8 op A : Nat) : Int)), .int .i64 (oneF 8 op A f), .int .i64 0]) ∧ Below w.heap.size w w' := by
  have eA := low_u8 ha hA
  have lA : A < 2 ^ 8 := by rw [hA]; exact Nat.mod_lt _ (by decide)
  rcases hop with rfl | rfl | rfl | rfl
  · rw [show oneN 8 11 A = 2 ^ 8 - 1 - A from rfl, show oneF 8 11 A f = f from rfl]
    exact one11_u8 a b f _ _ (Lib.hid (fun w => by have h := turn_u8 A f lA w; rw [eA] at h; exact h)) w
  · rw [show oneN 8 12 A = difN 8 0 A 0 from rfl, show oneF 8 12 A f = difF 8 0 A 0 from rfl]
    exact one12_u8 a b f _ _ (Lib.hid (fun w => by have h := negate_u8 A f lA w; rw [eA] at h; exact h)) w
  · rw [show oneN 8 18 A = sumN 8 A 1 0 from rfl, show oneF 8 18 A f = keepF (sumF 8 A 1 0) f from rfl]
    exact one18_u8 a b f _ _ (Lib.hid (fun w => by have h := increase_u8 A f lA w; rw [eA] at h; exact h)) w
  · rw [show oneN 8 19 A = difN 8 A 1 0 from rfl, show oneF 8 19 A f = keepF (difF 8 A 1 0) f from rfl]
    exact one19_u8 a b f _ _ (Lib.hid (fun w => by have h := decrease_u8 A f lA w; rw [eA] at h; exact h)) w
theorem oneAll_u16 (op a b f : Int) (X A : Nat) (w : World) (hop : OneOp op) (ha : IntKind.u64.wrap a = (X : Int)) (hA : A = X % 2 ^ 16) : Calls Tryz.prog 41 #[.int .i64 op, .int .i64 a, .int .i64 b, .int .i64 f] w fun e w' => e = .returned (.tuple #[.int .i64 (wrap64 ((oneN 16 op A : Nat) : Int)), .int .i64 (oneF 16 op A f), .int .i64 0]) ∧ Below w.heap.size w w' := by
  have eA := low_u16 ha hA
  have lA : A < 2 ^ 16 := by rw [hA]; exact Nat.mod_lt _ (by decide)
  rcases hop with rfl | rfl | rfl | rfl
  · rw [show oneN 16 11 A = 2 ^ 16 - 1 - A from rfl, show oneF 16 11 A f = f from rfl]
    exact one11_u16 a b f _ _ (Lib.hid (fun w => by have h := turn_u16 A f lA w; rw [eA] at h; exact h)) w
  · rw [show oneN 16 12 A = difN 16 0 A 0 from rfl, show oneF 16 12 A f = difF 16 0 A 0 from rfl]
    exact one12_u16 a b f _ _ (Lib.hid (fun w => by have h := negate_u16 A f lA w; rw [eA] at h; exact h)) w
  · rw [show oneN 16 18 A = sumN 16 A 1 0 from rfl, show oneF 16 18 A f = keepF (sumF 16 A 1 0) f from rfl]
    exact one18_u16 a b f _ _ (Lib.hid (fun w => by have h := increase_u16 A f lA w; rw [eA] at h; exact h)) w
  · rw [show oneN 16 19 A = difN 16 A 1 0 from rfl, show oneF 16 19 A f = keepF (difF 16 A 1 0) f from rfl]
    exact one19_u16 a b f _ _ (Lib.hid (fun w => by have h := decrease_u16 A f lA w; rw [eA] at h; exact h)) w
theorem oneAll_u32 (op a b f : Int) (X A : Nat) (w : World) (hop : OneOp op) (ha : IntKind.u64.wrap a = (X : Int)) (hA : A = X % 2 ^ 32) : Calls Tryz.prog 42 #[.int .i64 op, .int .i64 a, .int .i64 b, .int .i64 f] w fun e w' => e = .returned (.tuple #[.int .i64 (wrap64 ((oneN 32 op A : Nat) : Int)), .int .i64 (oneF 32 op A f), .int .i64 0]) ∧ Below w.heap.size w w' := by
  have eA := low_u32 ha hA
  have lA : A < 2 ^ 32 := by rw [hA]; exact Nat.mod_lt _ (by decide)
  rcases hop with rfl | rfl | rfl | rfl
  · rw [show oneN 32 11 A = 2 ^ 32 - 1 - A from rfl, show oneF 32 11 A f = f from rfl]
    exact one11_u32 a b f _ _ (Lib.hid (fun w => by have h := turn_u32 A f lA w; rw [eA] at h; exact h)) w
  · rw [show oneN 32 12 A = difN 32 0 A 0 from rfl, show oneF 32 12 A f = difF 32 0 A 0 from rfl]
    exact one12_u32 a b f _ _ (Lib.hid (fun w => by have h := negate_u32 A f lA w; rw [eA] at h; exact h)) w
  · rw [show oneN 32 18 A = sumN 32 A 1 0 from rfl, show oneF 32 18 A f = keepF (sumF 32 A 1 0) f from rfl]
    exact one18_u32 a b f _ _ (Lib.hid (fun w => by have h := increase_u32 A f lA w; rw [eA] at h; exact h)) w
  · rw [show oneN 32 19 A = difN 32 A 1 0 from rfl, show oneF 32 19 A f = keepF (difF 32 A 1 0) f from rfl]
    exact one19_u32 a b f _ _ (Lib.hid (fun w => by have h := decrease_u32 A f lA w; rw [eA] at h; exact h)) w
theorem oneAll_u64 (op a b f : Int) (X A : Nat) (w : World) (hop : OneOp op) (ha : IntKind.u64.wrap a = (X : Int)) (hA : A = X % 2 ^ 64) : Calls Tryz.prog 43 #[.int .i64 op, .int .i64 a, .int .i64 b, .int .i64 f] w fun e w' => e = .returned (.tuple #[.int .i64 (wrap64 ((oneN 64 op A : Nat) : Int)), .int .i64 (oneF 64 op A f), .int .i64 0]) ∧ Below w.heap.size w w' := by
  have eA := low_u64 ha hA
  have lA : A < 2 ^ 64 := by rw [hA]; exact Nat.mod_lt _ (by decide)
  rcases hop with rfl | rfl | rfl | rfl
  · rw [show oneN 64 11 A = 2 ^ 64 - 1 - A from rfl, show oneF 64 11 A f = f from rfl]
    exact one11_u64 a b f _ _ (Lib.hid (fun w => by have h := turn_u64 A f lA w; rw [eA] at h; exact h)) w
  · rw [show oneN 64 12 A = difN 64 0 A 0 from rfl, show oneF 64 12 A f = difF 64 0 A 0 from rfl]
    exact one12_u64 a b f _ _ (Lib.hid (fun w => by have h := negate_u64 A f lA w; rw [eA] at h; exact h)) w
  · rw [show oneN 64 18 A = sumN 64 A 1 0 from rfl, show oneF 64 18 A f = keepF (sumF 64 A 1 0) f from rfl]
    exact one18_u64 a b f _ _ (Lib.hid (fun w => by have h := increase_u64 A f lA w; rw [eA] at h; exact h)) w
  · rw [show oneN 64 19 A = difN 64 A 1 0 from rfl, show oneF 64 19 A f = keepF (difF 64 A 1 0) f from rfl]
    exact one19_u64 a b f _ _ (Lib.hid (fun w => by have h := decrease_u64 A f lA w; rw [eA] at h; exact h)) w
set_option maxHeartbeats 1000000 in
theorem OneI_u8 (op a r0 r1 r2 : Int) (c p z s o : Bool) (w : World) (H : Hid (∀ W, Calls Tryz.prog 40 #[.int .i64 op, .int .i64 a, .int .i64 0, .int .i64 (flV c p z s o)] W fun e w' => e = .returned (.tuple #[.int .i64 r0, .int .i64 r1, .int .i64 r2]) ∧ Below W.heap.size W w')) :
    Calls Tryz.prog 16 #[.int .i64 op, .int .i64 1, .int .i64 a, .int .i64 (flV c p z s o)] w fun e w' => e = .returned (.tuple #[.int .i64 r0, .int .i64 r1, .int .i64 r2]) ∧ Below w.heap.size w w' := by
  have CC := Lib.hid (fun w => call1 40 41 42 43 op a 0 r0 r1 r2 c p z s o w (by intro args w; kernel_rfl) H)
  generalize flV c p z s o = f at *
  clear H
  go_enter Tryz.func16, Tryz.ntmps16
  go_wp2_with fail
  refine (CC.out _).mono ?_
  rintro e w1 ⟨rfl, hb⟩
  have B1 := Lib.hid hb
  clear hb
  go_wp2
  go_ret3
  exact ⟨rfl, B1.out⟩
set_option maxHeartbeats 1000000 in
theorem OneI_u16 (op a r0 r1 r2 : Int) (c p z s o : Bool) (w : World) (H : Hid (∀ W, Calls Tryz.prog 41 #[.int .i64 op, .int .i64 a, .int .i64 0, .int .i64 (flV c p z s o)] W fun e w' => e = .returned (.tuple #[.int .i64 r0, .int .i64 r1, .int .i64 r2]) ∧ Below W.heap.size W w')) :
    Calls Tryz.prog 16 #[.int .i64 op, .int .i64 2, .int .i64 a, .int .i64 (flV c p z s o)] w fun e w' => e = .returned (.tuple #[.int .i64 r0, .int .i64 r1, .int .i64 r2]) ∧ Below w.heap.size w w' := by
  have CC := Lib.hid (fun w => call2 40 41 42 43 op a 0 r0 r1 r2 c p z s o w (by intro args w; kernel_rfl) H)
  generalize flV c p z s o = f at *
  clear H
  go_enter Tryz.func16, Tryz.ntmps16
  go_wp2_with fail
  refine (CC.out _).mono ?_
  rintro e w1 ⟨rfl, hb⟩
  have B1 := Lib.hid hb
  clear hb
  go_wp2
  go_ret3
  exact ⟨rfl, B1.out⟩
set_option maxHeartbeats 1000000 in
theorem OneI_u32 (op a r0 r1 r2 : Int) (c p z s o : Bool) (w : World) (H : Hid (∀ W, Calls Tryz.prog 42 #[.int .i64 op, .int .i64 a, .int .i64 0, .int .i64 (flV c p z s o)] W fun e w' => e = .returned (.tuple #[.int .i64 r0, .int .i64 r1, .int .i64 r2]) ∧ Below W.heap.size W w')) :
    Calls Tryz.prog 16 #[.int .i64 op, .int .i64 4, .int .i64 a, .int .i64 (flV c p z s o)] w fun e w' => e = .returned (.tuple #[.int .i64 r0, .int .i64 r1, .int .i64 r2]) ∧ Below w.heap.size w w' := by
  have CC := Lib.hid (fun w => call4 40 41 42 43 op a 0 r0 r1 r2 c p z s o w (by intro args w; kernel_rfl) H)
  generalize flV c p z s o = f at *
  clear H
  go_enter Tryz.func16, Tryz.ntmps16
  go_wp2_with fail
  refine (CC.out _).mono ?_
  rintro e w1 ⟨rfl, hb⟩
  have B1 := Lib.hid hb
  clear hb
  go_wp2
  go_ret3
  exact ⟨rfl, B1.out⟩
set_option maxHeartbeats 1000000 in
theorem OneI_u64 (op a r0 r1 r2 : Int) (c p z s o : Bool) (w : World) (H : Hid (∀ W, Calls Tryz.prog 43 #[.int .i64 op, .int .i64 a, .int .i64 0, .int .i64 (flV c p z s o)] W fun e w' => e = .returned (.tuple #[.int .i64 r0, .int .i64 r1, .int .i64 r2]) ∧ Below W.heap.size W w')) :
    Calls Tryz.prog 16 #[.int .i64 op, .int .i64 8, .int .i64 a, .int .i64 (flV c p z s o)] w fun e w' => e = .returned (.tuple #[.int .i64 r0, .int .i64 r1, .int .i64 r2]) ∧ Below w.heap.size w w' := by
  have CC := Lib.hid (fun w => call8 40 41 42 43 op a 0 r0 r1 r2 c p z s o w (by intro args w; kernel_rfl) H)
  generalize flV c p z s o = f at *
  clear H
  go_enter Tryz.func16, Tryz.ntmps16
  go_wp2_with fail
  refine (CC.out _).mono ?_
  rintro e w1 ⟨rfl, hb⟩
  have B1 := Lib.hid hb
  clear hb
  go_wp2
  go_ret3
  exact ⟨rfl, B1.out⟩
set_option maxHeartbeats 1000000 in
theorem OneIBad (op n a f : Int) (w : World) (aR : Addr) (hs : SentF w aR) (hw : (Lit.int .i64 f).wf = true) (h : ¬ okSize n ∨ ¬ FlOK f) :
    Calls Tryz.prog 16 #[.int .i64 op, .int .i64 n, .int .i64 a, .int .i64 f] w fun e w' => e = .returned (.tuple #[.int .i64 0, .int .i64 0, .int .i64 4]) ∧ Below w.heap.size w w' := by
  have CC := Lib.hid (callBad 40 41 42 43 op n a 0 f w aR hs hw h)
  clear h hw hs
  go_enter Tryz.func16, Tryz.ntmps16
  go_wp2_with fail
  refine (CC.out).mono ?_
  rintro e w1 ⟨rfl, hb⟩
  have B1 := Lib.hid hb
  clear hb
  go_wp2
  go_ret3
  exact ⟨rfl, B1.out⟩
/-- the bits of a number turned about -/
theorem ones_xor {w X : Nat} (h : X < 2 ^ w) : (2 ^ w - 1) ^^^ X = 2 ^ w - 1 - X := by
  apply Nat.eq_of_testBit_eq
  intro i
  rw [show 2 ^ w - 1 - X = 2 ^ w - (X + 1) by omega, Nat.testBit_xor, Nat.testBit_two_pow_sub_one, Nat.testBit_two_pow_sub_succ h]
  by_cases c : i < w
  · simp [c]
  · have : X.testBit i = false := Nat.testBit_lt_two_pow (Nat.lt_of_lt_of_le h (Nat.pow_le_pow_right (by decide) (by omega)))
    simp [c, this]
theorem notX {a : Int} {X : Nat} (h : IntKind.u64.wrap a = (X : Int)) : IntKind.u64.wrap (bits .xor .i64 (-1) a) = ((18446744073709551615 - X : Nat) : Int) := by
  have hX : X < 2 ^ 64 := by have := wrapU a; omega
  rw [xorX (Xa := 18446744073709551615) (by decide +kernel) h, show (18446744073709551615 : Nat) = 2 ^ 64 - 1 from rfl, ones_xor hX]
theorem not_low (X w : Nat) (hw : w ≤ 64) (hX : X < 18446744073709551616) : (18446744073709551615 - X) % 2 ^ w = 2 ^ w - 1 - X % 2 ^ w := by
  obtain ⟨m, hm⟩ : ∃ m, 18446744073709551616 = 2 ^ w * m := ⟨2 ^ (64 - w), by rw [← Nat.pow_add, show w + (64 - w) = 64 by omega]⟩
  have hp := Nat.two_pow_pos w
  have h1 := Nat.mod_lt X hp
  have h2 := Nat.div_add_mod X (2 ^ w)
  generalize 2 ^ w = p at *
  generalize X % p = r at *
  have hq : X / p < m := by
    apply Nat.div_lt_of_lt_mul; rw [← hm]; exact hX
  generalize X / p = q at *
  have e : 18446744073709551615 - X = (p - 1 - r) + p * (m - 1 - q) := by
    have e2 : p * m = p * q + p + p * (m - 1 - q) := by
      rw [← Nat.mul_succ, ← Nat.mul_add]; congr 1; omega
    omega
  rw [e, Nat.add_mul_mod_self_left, Nat.mod_eq_of_lt (by omega)]
/-- what One answers of right arguments -/
def OneOut (op n a f v g k : Int) : Prop :=
  ∃ (size X : Nat), n = (size : Int) ∧ IntKind.u64.wrap a = (X : Int) ∧ ((OneOp op ∧ v = wrap64 ((oneN (8 * size) op (X % 2 ^ (8 * size)) : Nat) : Int) ∧ g = oneF (8 * size) op (X % 2 ^ (8 * size)) f ∧ k = 0) ∨ (¬ OneOp op ∧ v = 0 ∧ g = 0 ∧ k = 11))
theorem OneOut.one {op n a f v g k v' g' k' : Int} (h : OneOut op n a f v g k) (h' : OneOut op n a f v' g' k') : v = v' ∧ g = g' ∧ k = k' := by
  obtain ⟨s, X, e1, e2, h⟩ := h
  obtain ⟨s', X', e1', e2', h'⟩ := h'
  obtain rfl : s = s' := by omega
  obtain rfl : X = X' := by omega
  rcases h with ⟨h1, rfl, rfl, rfl⟩ | ⟨h1, rfl, rfl, rfl⟩ <;> rcases h' with ⟨h1', rfl, rfl, rfl⟩ | ⟨h1', rfl, rfl, rfl⟩
  · exact ⟨rfl, rfl, rfl⟩
  · exact absurd h1 h1'
  · exact absurd h1' h1
  · exact ⟨rfl, rfl, rfl⟩
theorem OneI (op n a : Int) (c p z s o : Bool) (w : World) (hn : okSize n) : ∃ v g k, OneOut op n a (flV c p z s o) v g k ∧ Calls Tryz.prog 16 #[.int .i64 op, .int .i64 n, .int .i64 a, .int .i64 (flV c p z s o)] w fun e w' => e = .returned (.tuple #[.int .i64 v, .int .i64 g, .int .i64 k]) ∧ Below w.heap.size w w' := by
  obtain ⟨X, ha⟩ := natU a
  by_cases hop : OneOp op
  · rcases hn with rfl | rfl | rfl | rfl
    · exact ⟨_, _, _, ⟨1, X, rfl, ha, .inl ⟨hop, rfl, rfl, rfl⟩⟩, OneI_u8 op a _ _ _ c p z s o w (Lib.hid fun W => oneAll_u8 op a 0 _ X _ W hop ha rfl)⟩
    · exact ⟨_, _, _, ⟨2, X, rfl, ha, .inl ⟨hop, rfl, rfl, rfl⟩⟩, OneI_u16 op a _ _ _ c p z s o w (Lib.hid fun W => oneAll_u16 op a 0 _ X _ W hop ha rfl)⟩
    · exact ⟨_, _, _, ⟨4, X, rfl, ha, .inl ⟨hop, rfl, rfl, rfl⟩⟩, OneI_u32 op a _ _ _ c p z s o w (Lib.hid fun W => oneAll_u32 op a 0 _ X _ W hop ha rfl)⟩
    · exact ⟨_, _, _, ⟨8, X, rfl, ha, .inl ⟨hop, rfl, rfl, rfl⟩⟩, OneI_u64 op a _ _ _ c p z s o w (Lib.hid fun W => oneAll_u64 op a 0 _ X _ W hop ha rfl)⟩
  · have hne : op ≠ 11 ∧ op ≠ 12 ∧ op ≠ 18 ∧ op ≠ 19 := by unfold OneOp at hop; omega
    by_cases hr : 1 ≤ op ∧ op ≤ 44
    · rcases hn with rfl | rfl | rfl | rfl
      · exact ⟨_, _, _, ⟨1, X, rfl, ha, .inr ⟨hop, rfl, rfl, rfl⟩⟩, OneI_u8 op a _ _ _ c p z s o w (Lib.hid fun W => oneNil_u8 op a 0 _ hr.1 hr.2 hne W)⟩
      · exact ⟨_, _, _, ⟨2, X, rfl, ha, .inr ⟨hop, rfl, rfl, rfl⟩⟩, OneI_u16 op a _ _ _ c p z s o w (Lib.hid fun W => oneNil_u16 op a 0 _ hr.1 hr.2 hne W)⟩
      · exact ⟨_, _, _, ⟨4, X, rfl, ha, .inr ⟨hop, rfl, rfl, rfl⟩⟩, OneI_u32 op a _ _ _ c p z s o w (Lib.hid fun W => oneNil_u32 op a 0 _ hr.1 hr.2 hne W)⟩
      · exact ⟨_, _, _, ⟨8, X, rfl, ha, .inr ⟨hop, rfl, rfl, rfl⟩⟩, OneI_u64 op a _ _ _ c p z s o w (Lib.hid fun W => oneNil_u64 op a 0 _ hr.1 hr.2 hne W)⟩
    · rcases hn with rfl | rfl | rfl | rfl
      · exact ⟨_, _, _, ⟨1, X, rfl, ha, .inr ⟨hop, rfl, rfl, rfl⟩⟩, OneI_u8 op a _ _ _ c p z s o w (Lib.hid fun W => oneNo_u8 op a 0 _ hr W)⟩
      · exact ⟨_, _, _, ⟨2, X, rfl, ha, .inr ⟨hop, rfl, rfl, rfl⟩⟩, OneI_u16 op a _ _ _ c p z s o w (Lib.hid fun W => oneNo_u16 op a 0 _ hr W)⟩
      · exact ⟨_, _, _, ⟨4, X, rfl, ha, .inr ⟨hop, rfl, rfl, rfl⟩⟩, OneI_u32 op a _ _ _ c p z s o w (Lib.hid fun W => oneNo_u32 op a 0 _ hr W)⟩
      · exact ⟨_, _, _, ⟨8, X, rfl, ha, .inr ⟨hop, rfl, rfl, rfl⟩⟩, OneI_u64 op a _ _ _ c p z s o w (Lib.hid fun W => oneNo_u64 op a 0 _ hr W)⟩
end Go.Proofs.YtifpcfhfglkbcaaGreatDoor
