/-
  What math/bits.Div64 does where the upper half is not 0, out of facts on numbers: it returns quotient and rest and changes nothing; conditions: the upper half is below the divisor, the shifted parts are what their names say.
-/
import Derived.Test.YtbcbepdfijcbmaaDoorRows
import Derived.Test.YtbcbepdfijcbmaaDoorShelf
import Derived.Test.YtbcbepdfijcbmaaDoorMathKnuth
import Derived.WalkKit
import Derived.WalkSpells
import Derived.WalkLawsBesides
import Derived.Lib.Hide
import Derived.Deep.QuietTactic
import Derived.BigQuiet
namespace Go.Proofs.YtbcbepdfijcbmaaDoor
open Go.RowKit
theorem ret_two' {k : IntKind} {a b c d : Int} (h1 : a = c) (h2 : b = d) : Ending.returned (.tuple #[.int k a, .int k b]) = .returned (.tuple #[.int k c, .int k d]) := by rw [h1, h2]
theorem val_u64 {a b : Int} (h : a = b) : Value.int .u64 a = .int .u64 b := by rw [h]
theorem quo0 (u y1 : Nat) (hu : u < 18446744073709551616) : IntKind.u64.wrap ((u : Int) / (y1 : Int)) = ((u / y1 : Nat) : Int) := by
  have e3 : u / y1 ≤ u := Nat.div_le_self _ _
  rw [← Int.natCast_ediv, wrapU]
  generalize u / y1 = q at *
  omega
theorem rhat0 (u y1 : Nat) (hu : u < 18446744073709551616) : IntKind.u64.wrap ((u : Int) - IntKind.u64.wrap (IntKind.u64.wrap ((u : Int) / (y1 : Int)) * (y1 : Int))) = ((u % y1 : Nat) : Int) := by
  have e := Nat.div_add_mod u y1
  rw [quo0 u y1 hu, ← Int.natCast_mul, Nat.mul_comm]
  have e3 : u % y1 ≤ u := Nat.mod_le _ _
  generalize y1 * (u / y1) = P at *
  rw [wrapU, wrapU]; omega
theorem mulB {q y0 : Nat} (hq : q ≤ 4294967295) (hy : y0 < 4294967296) : q * y0 < 18446744073709551616 := by
  have : q * y0 ≤ 4294967295 * y0 := Nat.mul_le_mul_right _ hq
  omega
set_option maxRecDepth 100000 in
set_option maxHeartbeats 4000000 in
theorem div64_hi (hi lo y s V y1 y0 u t n1 n0 Q R1 Q0 R0 : Nat) (w : World) (h0 : 0 < hi) (hh : hi < y) (hs : s ≤ 63)
    (hc : ∀ w, Calls Tryd.prog 102 #[.int .u64 (y : Int)] w fun e w' => e = .returned (.int .i64 (s : Int)) ∧ w = w')
    (r1 : IntKind.u64.wrap ((y : Int) * 2 ^ s) = (V : Int)) (r2 : (V : Int) / 4294967296 = (y1 : Int)) (r3 : bits .and .u64 (V : Int) 4294967295 = (y0 : Int))
    (r4 : bits .or .u64 (IntKind.u64.wrap ((hi : Int) * 2 ^ s)) ((lo : Int) / 2 ^ (64 - s)) = (u : Int)) (r5 : IntKind.u64.wrap ((lo : Int) * 2 ^ s) = (t : Int)) (r6 : (t : Int) / 4294967296 = (n1 : Int)) (r7 : bits .and .u64 (t : Int) 4294967295 = (n0 : Int))
    (hD1 : Dig y1 y0 u n1 Q) (hD2 : Dig y1 y0 R1 n0 Q0) (hB : u < 18446744073709551616 ∧ R1 < 18446744073709551616) (hy1 : (2147483648 : Int) ≤ (y1 : Int)) (hy1b : (y1 : Int) ≤ 4294967295) (hy0 : (y0 : Int) ≤ 4294967295) (hn1 : (n1 : Int) ≤ 4294967295) (hn0 : (n0 : Int) ≤ 4294967295)
    (rr1 : IntKind.u64.wrap (IntKind.u64.wrap (IntKind.u64.wrap ((u : Int) * 4294967296) + (n1 : Int)) - IntKind.u64.wrap ((Q : Int) * (V : Int))) = (R1 : Int))
    (rr0 : IntKind.u64.wrap (IntKind.u64.wrap (IntKind.u64.wrap ((R1 : Int) * 4294967296) + (n0 : Int)) - IntKind.u64.wrap ((Q0 : Int) * (V : Int))) = (R0 : Int)) (hQ : (Q : Int) ≤ 4294967295) (hQ0 : (Q0 : Int) ≤ 4294967295) :
    Calls Tryd.prog 96 #[.int .u64 hi, .int .u64 lo, .int .u64 y] w fun e w' => e = .returned (.tuple #[.int .u64 (Q * 4294967296 + Q0), .int .u64 ((R0 : Int) / 2 ^ s)]) ∧ w = w' := by
  have C := Lib.hid hc; have HD1 := Lib.hid hD1; have HD2 := Lib.hid hD2; have RR1 := Lib.hid rr1; have RR0 := Lib.hid rr0; have HB := Lib.hid hB
  clear hc hD1 hD2 rr1 rr0 hB
  have e1 : ((y : Int) == 0) = false := beq_eq_false_iff_ne.mpr (by omega)
  have e2 : ((hi : Int) == 0) = false := beq_eq_false_iff_ne.mpr (by omega)
  have e3 : decide ((y : Int) ≤ (hi : Int)) = false := decide_eq_false (by omega)
  have e4 : ((y1 : Int) == 0) = false := beq_eq_false_iff_ne.mpr (by omega)
  have e5 : ¬ y1 = 0 := by omega
  go_enter Tryd.func96, Tryd.ntmps96
  go_wp2_with fail
  refine (C.out _).mono ?_
  rintro e w' ⟨rfl, rfl⟩
  go_wp2
  go_loop [15, 16] (fun a b => ∃ (q r : Nat), a = .int .u64 q ∧ b = .int .u64 r ∧ Hid (r < 4294967296) ∧ Hid (q ≤ 4294967297) ∧ Hid (q * y1 + r = u) ∧ Hid (Q ≤ q)) (fun a _ => (intOf a).toNat)
  case atStart =>
    exact ⟨u / y1, u % y1, val_u64 (quo0 u y1 HB.out.1), val_u64 (rhat0 u y1 HB.out.1), Lib.hid HD1.out.start.2.2.2, Lib.hid HD1.out.start.2.2.1, Lib.hid HD1.out.start.1, Lib.hid HD1.out.start.2.1⟩
  case round =>
    obtain ⟨q, r, rfl, rfl, HR, HQ', HE, HL⟩ := hrel
    have ir : (r : Int) ≤ 4294967295 := by have := HR.out; omega
    have iq : (q : Int) ≤ 4294967297 := by have := HQ'.out; omega
    have iq0 : (0 : Int) ≤ (q : Int) := by omega
    by_cases t1 : (4294967296 : Int) ≤ (q : Int)
    · obtain ⟨l1, l2, l3⟩ := HD1.out.low HE.out HL.out (.inl (by omega))
      have L1 := Lib.hid l1; have L3 := Lib.hid l3
      have iq1 : (1 : Int) ≤ (q : Int) := by omega
      clear l1 l3 l2
      have bw : IntKind.u64.wrap ((r : Int) + (y1 : Int)) = (r : Int) + (y1 : Int) := by rw [wrapU]; omega
      by_cases t3 : (4294967296 : Int) ≤ (r : Int) + (y1 : Int)
      · have HQ := Lib.hid (HD1.out.stop L3.out L1.out (by omega) (by have := HQ'.out; omega))
        have EQ : ((q : Int) - 1) = (Q : Int) := by have := HQ.out; omega
        have rr1 := RR1.out
        go_wp2
        go_loop [18, 16] (fun a b => ∃ (q r : Nat), a = .int .u64 q ∧ b = .int .u64 r ∧ Hid (r < 4294967296) ∧ Hid (q ≤ 4294967297) ∧ Hid (q * y1 + r = R1) ∧ Hid (Q0 ≤ q)) (fun a _ => (intOf a).toNat)
        case atStart =>
          exact ⟨R1 / y1, R1 % y1, val_u64 (quo0 R1 y1 HB.out.2), val_u64 (rhat0 R1 y1 HB.out.2), Lib.hid HD2.out.start.2.2.2, Lib.hid HD2.out.start.2.2.1, Lib.hid HD2.out.start.1, Lib.hid HD2.out.start.2.1⟩
        case round =>
          obtain ⟨q, r, rfl, rfl, HR, HQ', HE, HL⟩ := hrel
          have ir : (r : Int) ≤ 4294967295 := by have := HR.out; omega
          have iq : (q : Int) ≤ 4294967297 := by have := HQ'.out; omega
          have iq0 : (0 : Int) ≤ (q : Int) := by omega
          by_cases t1 : (4294967296 : Int) ≤ (q : Int)
          · obtain ⟨l1, l2, l3⟩ := HD2.out.low HE.out HL.out (.inl (by omega))
            have L1 := Lib.hid l1; have L3 := Lib.hid l3
            have iq1 : (1 : Int) ≤ (q : Int) := by omega
            clear l1 l3 l2
            have bw : IntKind.u64.wrap ((r : Int) + (y1 : Int)) = (r : Int) + (y1 : Int) := by rw [wrapU]; omega
            by_cases t3 : (4294967296 : Int) ≤ (r : Int) + (y1 : Int)
            · have HQ := Lib.hid (HD2.out.stop L3.out L1.out (by omega) (by have := HQ'.out; omega))
              have EQ : ((q : Int) - 1) = (Q0 : Int) := by have := HQ.out; omega
              have rr0 := RR0.out
              go_wp2
              go_ret2
              exact ⟨rfl, rfl⟩
            · have T3 := Lib.hid t3
              have T3b : decide ((4294967296 : Int) ≤ (r : Int) + (y1 : Int)) = false := decide_eq_false t3
              clear t3
              go_wp2
              go_round
              case rel => exact ⟨q - 1, r + y1, val_u64 (by omega), val_u64 (by omega), Lib.hid (by have := T3.out; omega), Lib.hid (by have := HQ'.out; omega), L3, L1⟩
              case measure => simp [intOf]; omega
          · have T1 := Lib.hid t1
            have T1b : decide ((4294967296 : Int) ≤ (q : Int)) = false := decide_eq_false t1
            clear t1
            obtain ⟨P, hP⟩ : ∃ P, P = q * y0 := ⟨_, rfl⟩
            have pw : IntKind.u64.wrap ((q : Int) * (y0 : Int)) = (P : Int) := by
              have := mulB (q := q) (y0 := y0) (by have := T1.out; omega) (by omega)
              rw [← Int.natCast_mul, ← hP, wrapU]; omega
            by_cases t2 : 4294967296 * (r : Int) + (n0 : Int) < (P : Int)
            · obtain ⟨l1, l2, l3⟩ := HD2.out.low HE.out HL.out (.inr (by rw [← hP]; omega))
              have L1 := Lib.hid l1; have L3 := Lib.hid l3
              have iq1 : (1 : Int) ≤ (q : Int) := by omega
              clear l1 l3 l2 hP
              have bw : IntKind.u64.wrap ((r : Int) + (y1 : Int)) = (r : Int) + (y1 : Int) := by rw [wrapU]; omega
              by_cases t3 : (4294967296 : Int) ≤ (r : Int) + (y1 : Int)
              · have HQ := Lib.hid (HD2.out.stop L3.out L1.out (by omega) (by have := HQ'.out; omega))
                have EQ : ((q : Int) - 1) = (Q0 : Int) := by have := HQ.out; omega
                have rr0 := RR0.out
                go_wp2
                go_ret2
                exact ⟨rfl, rfl⟩
              · have T3 := Lib.hid t3
                have T3b : decide ((4294967296 : Int) ≤ (r : Int) + (y1 : Int)) = false := decide_eq_false t3
                clear t3
                go_wp2
                go_round
                case rel => exact ⟨q - 1, r + y1, val_u64 (by omega), val_u64 (by omega), Lib.hid (by have := T3.out; omega), Lib.hid (by have := HQ'.out; omega), L3, L1⟩
                case measure => simp [intOf]; omega
            · have T2b : decide (4294967296 * (r : Int) + (n0 : Int) < (P : Int)) = false := decide_eq_false t2
              have HQ := Lib.hid (HD2.out.done HE.out HL.out (by rw [← hP]; omega))
              clear t2 hP
              obtain rfl : q = Q0 := HQ.out
              have rr0 := RR0.out
              go_wp2
              go_ret2
              exact ⟨rfl, rfl⟩
      · have T3 := Lib.hid t3
        have T3b : decide ((4294967296 : Int) ≤ (r : Int) + (y1 : Int)) = false := decide_eq_false t3
        clear t3
        go_wp2
        go_round
        case rel => exact ⟨q - 1, r + y1, val_u64 (by omega), val_u64 (by omega), Lib.hid (by have := T3.out; omega), Lib.hid (by have := HQ'.out; omega), L3, L1⟩
        case measure => simp [intOf]; omega
    · have T1 := Lib.hid t1
      have T1b : decide ((4294967296 : Int) ≤ (q : Int)) = false := decide_eq_false t1
      clear t1
      obtain ⟨P, hP⟩ : ∃ P, P = q * y0 := ⟨_, rfl⟩
      have pw : IntKind.u64.wrap ((q : Int) * (y0 : Int)) = (P : Int) := by
        have := mulB (q := q) (y0 := y0) (by have := T1.out; omega) (by omega)
        rw [← Int.natCast_mul, ← hP, wrapU]; omega
      by_cases t2 : 4294967296 * (r : Int) + (n1 : Int) < (P : Int)
      · obtain ⟨l1, l2, l3⟩ := HD1.out.low HE.out HL.out (.inr (by rw [← hP]; omega))
        have L1 := Lib.hid l1; have L3 := Lib.hid l3
        have iq1 : (1 : Int) ≤ (q : Int) := by omega
        clear l1 l3 l2 hP
        have bw : IntKind.u64.wrap ((r : Int) + (y1 : Int)) = (r : Int) + (y1 : Int) := by rw [wrapU]; omega
        by_cases t3 : (4294967296 : Int) ≤ (r : Int) + (y1 : Int)
        · have HQ := Lib.hid (HD1.out.stop L3.out L1.out (by omega) (by have := HQ'.out; omega))
          have EQ : ((q : Int) - 1) = (Q : Int) := by have := HQ.out; omega
          have rr1 := RR1.out
          go_wp2
          go_loop [18, 16] (fun a b => ∃ (q r : Nat), a = .int .u64 q ∧ b = .int .u64 r ∧ Hid (r < 4294967296) ∧ Hid (q ≤ 4294967297) ∧ Hid (q * y1 + r = R1) ∧ Hid (Q0 ≤ q)) (fun a _ => (intOf a).toNat)
          case atStart =>
            exact ⟨R1 / y1, R1 % y1, val_u64 (quo0 R1 y1 HB.out.2), val_u64 (rhat0 R1 y1 HB.out.2), Lib.hid HD2.out.start.2.2.2, Lib.hid HD2.out.start.2.2.1, Lib.hid HD2.out.start.1, Lib.hid HD2.out.start.2.1⟩
          case round =>
            obtain ⟨q, r, rfl, rfl, HR, HQ', HE, HL⟩ := hrel
            have ir : (r : Int) ≤ 4294967295 := by have := HR.out; omega
            have iq : (q : Int) ≤ 4294967297 := by have := HQ'.out; omega
            have iq0 : (0 : Int) ≤ (q : Int) := by omega
            by_cases t1 : (4294967296 : Int) ≤ (q : Int)
            · obtain ⟨l1, l2, l3⟩ := HD2.out.low HE.out HL.out (.inl (by omega))
              have L1 := Lib.hid l1; have L3 := Lib.hid l3
              have iq1 : (1 : Int) ≤ (q : Int) := by omega
              clear l1 l3 l2
              have bw : IntKind.u64.wrap ((r : Int) + (y1 : Int)) = (r : Int) + (y1 : Int) := by rw [wrapU]; omega
              by_cases t3 : (4294967296 : Int) ≤ (r : Int) + (y1 : Int)
              · have HQ := Lib.hid (HD2.out.stop L3.out L1.out (by omega) (by have := HQ'.out; omega))
                have EQ : ((q : Int) - 1) = (Q0 : Int) := by have := HQ.out; omega
                have rr0 := RR0.out
                go_wp2
                go_ret2
                exact ⟨rfl, rfl⟩
              · have T3 := Lib.hid t3
                have T3b : decide ((4294967296 : Int) ≤ (r : Int) + (y1 : Int)) = false := decide_eq_false t3
                clear t3
                go_wp2
                go_round
                case rel => exact ⟨q - 1, r + y1, val_u64 (by omega), val_u64 (by omega), Lib.hid (by have := T3.out; omega), Lib.hid (by have := HQ'.out; omega), L3, L1⟩
                case measure => simp [intOf]; omega
            · have T1 := Lib.hid t1
              have T1b : decide ((4294967296 : Int) ≤ (q : Int)) = false := decide_eq_false t1
              clear t1
              obtain ⟨P, hP⟩ : ∃ P, P = q * y0 := ⟨_, rfl⟩
              have pw : IntKind.u64.wrap ((q : Int) * (y0 : Int)) = (P : Int) := by
                have := mulB (q := q) (y0 := y0) (by have := T1.out; omega) (by omega)
                rw [← Int.natCast_mul, ← hP, wrapU]; omega
              by_cases t2 : 4294967296 * (r : Int) + (n0 : Int) < (P : Int)
              · obtain ⟨l1, l2, l3⟩ := HD2.out.low HE.out HL.out (.inr (by rw [← hP]; omega))
                have L1 := Lib.hid l1; have L3 := Lib.hid l3
                have iq1 : (1 : Int) ≤ (q : Int) := by omega
                clear l1 l3 l2 hP
                have bw : IntKind.u64.wrap ((r : Int) + (y1 : Int)) = (r : Int) + (y1 : Int) := by rw [wrapU]; omega
                by_cases t3 : (4294967296 : Int) ≤ (r : Int) + (y1 : Int)
                · have HQ := Lib.hid (HD2.out.stop L3.out L1.out (by omega) (by have := HQ'.out; omega))
                  have EQ : ((q : Int) - 1) = (Q0 : Int) := by have := HQ.out; omega
                  have rr0 := RR0.out
                  go_wp2
                  go_ret2
                  exact ⟨rfl, rfl⟩
                · have T3 := Lib.hid t3
                  have T3b : decide ((4294967296 : Int) ≤ (r : Int) + (y1 : Int)) = false := decide_eq_false t3
                  clear t3
                  go_wp2
                  go_round
                  case rel => exact ⟨q - 1, r + y1, val_u64 (by omega), val_u64 (by omega), Lib.hid (by have := T3.out; omega), Lib.hid (by have := HQ'.out; omega), L3, L1⟩
                  case measure => simp [intOf]; omega
              · have T2b : decide (4294967296 * (r : Int) + (n0 : Int) < (P : Int)) = false := decide_eq_false t2
                have HQ := Lib.hid (HD2.out.done HE.out HL.out (by rw [← hP]; omega))
                clear t2 hP
                obtain rfl : q = Q0 := HQ.out
                have rr0 := RR0.out
                go_wp2
                go_ret2
                exact ⟨rfl, rfl⟩
        · have T3 := Lib.hid t3
          have T3b : decide ((4294967296 : Int) ≤ (r : Int) + (y1 : Int)) = false := decide_eq_false t3
          clear t3
          go_wp2
          go_round
          case rel => exact ⟨q - 1, r + y1, val_u64 (by omega), val_u64 (by omega), Lib.hid (by have := T3.out; omega), Lib.hid (by have := HQ'.out; omega), L3, L1⟩
          case measure => simp [intOf]; omega
      · have T2b : decide (4294967296 * (r : Int) + (n1 : Int) < (P : Int)) = false := decide_eq_false t2
        have HQ := Lib.hid (HD1.out.done HE.out HL.out (by rw [← hP]; omega))
        clear t2 hP
        obtain rfl : q = Q := HQ.out
        have rr1 := RR1.out
        go_wp2
        go_loop [18, 16] (fun a b => ∃ (q r : Nat), a = .int .u64 q ∧ b = .int .u64 r ∧ Hid (r < 4294967296) ∧ Hid (q ≤ 4294967297) ∧ Hid (q * y1 + r = R1) ∧ Hid (Q0 ≤ q)) (fun a _ => (intOf a).toNat)
        case atStart =>
          exact ⟨R1 / y1, R1 % y1, val_u64 (quo0 R1 y1 HB.out.2), val_u64 (rhat0 R1 y1 HB.out.2), Lib.hid HD2.out.start.2.2.2, Lib.hid HD2.out.start.2.2.1, Lib.hid HD2.out.start.1, Lib.hid HD2.out.start.2.1⟩
        case round =>
          obtain ⟨q, r, rfl, rfl, HR, HQ', HE, HL⟩ := hrel
          have ir : (r : Int) ≤ 4294967295 := by have := HR.out; omega
          have iq : (q : Int) ≤ 4294967297 := by have := HQ'.out; omega
          have iq0 : (0 : Int) ≤ (q : Int) := by omega
          by_cases t1 : (4294967296 : Int) ≤ (q : Int)
          · obtain ⟨l1, l2, l3⟩ := HD2.out.low HE.out HL.out (.inl (by omega))
            have L1 := Lib.hid l1; have L3 := Lib.hid l3
            have iq1 : (1 : Int) ≤ (q : Int) := by omega
            clear l1 l3 l2
            have bw : IntKind.u64.wrap ((r : Int) + (y1 : Int)) = (r : Int) + (y1 : Int) := by rw [wrapU]; omega
            by_cases t3 : (4294967296 : Int) ≤ (r : Int) + (y1 : Int)
            · have HQ := Lib.hid (HD2.out.stop L3.out L1.out (by omega) (by have := HQ'.out; omega))
              have EQ : ((q : Int) - 1) = (Q0 : Int) := by have := HQ.out; omega
              have rr0 := RR0.out
              go_wp2
              go_ret2
              exact ⟨rfl, rfl⟩
            · have T3 := Lib.hid t3
              have T3b : decide ((4294967296 : Int) ≤ (r : Int) + (y1 : Int)) = false := decide_eq_false t3
              clear t3
              go_wp2
              go_round
              case rel => exact ⟨q - 1, r + y1, val_u64 (by omega), val_u64 (by omega), Lib.hid (by have := T3.out; omega), Lib.hid (by have := HQ'.out; omega), L3, L1⟩
              case measure => simp [intOf]; omega
          · have T1 := Lib.hid t1
            have T1b : decide ((4294967296 : Int) ≤ (q : Int)) = false := decide_eq_false t1
            clear t1
            obtain ⟨P, hP⟩ : ∃ P, P = q * y0 := ⟨_, rfl⟩
            have pw : IntKind.u64.wrap ((q : Int) * (y0 : Int)) = (P : Int) := by
              have := mulB (q := q) (y0 := y0) (by have := T1.out; omega) (by omega)
              rw [← Int.natCast_mul, ← hP, wrapU]; omega
            by_cases t2 : 4294967296 * (r : Int) + (n0 : Int) < (P : Int)
            · obtain ⟨l1, l2, l3⟩ := HD2.out.low HE.out HL.out (.inr (by rw [← hP]; omega))
              have L1 := Lib.hid l1; have L3 := Lib.hid l3
              have iq1 : (1 : Int) ≤ (q : Int) := by omega
              clear l1 l3 l2 hP
              have bw : IntKind.u64.wrap ((r : Int) + (y1 : Int)) = (r : Int) + (y1 : Int) := by rw [wrapU]; omega
              by_cases t3 : (4294967296 : Int) ≤ (r : Int) + (y1 : Int)
              · have HQ := Lib.hid (HD2.out.stop L3.out L1.out (by omega) (by have := HQ'.out; omega))
                have EQ : ((q : Int) - 1) = (Q0 : Int) := by have := HQ.out; omega
                have rr0 := RR0.out
                go_wp2
                go_ret2
                exact ⟨rfl, rfl⟩
              · have T3 := Lib.hid t3
                have T3b : decide ((4294967296 : Int) ≤ (r : Int) + (y1 : Int)) = false := decide_eq_false t3
                clear t3
                go_wp2
                go_round
                case rel => exact ⟨q - 1, r + y1, val_u64 (by omega), val_u64 (by omega), Lib.hid (by have := T3.out; omega), Lib.hid (by have := HQ'.out; omega), L3, L1⟩
                case measure => simp [intOf]; omega
            · have T2b : decide (4294967296 * (r : Int) + (n0 : Int) < (P : Int)) = false := decide_eq_false t2
              have HQ := Lib.hid (HD2.out.done HE.out HL.out (by rw [← hP]; omega))
              clear t2 hP
              obtain rfl : q = Q0 := HQ.out
              have rr0 := RR0.out
              go_wp2
              go_ret2
              exact ⟨rfl, rfl⟩
end Go.Proofs.YtbcbepdfijcbmaaDoor
