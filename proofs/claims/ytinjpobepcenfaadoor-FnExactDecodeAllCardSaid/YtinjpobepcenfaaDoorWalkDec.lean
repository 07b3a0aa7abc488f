/-
  What read of impl's reader does, whole: the instruction that the bytes are, or a code, or a panic at the text's end; conditions: those in each head.
  What the deferred call of impl.Decode does, the two results' blocks, and Decode of a text that is too long; conditions: those in each head.
  What impl.Decode does where the text ends and where the bytes are an instruction; conditions: those in each head.
  What impl.Decode does where the place lies out of the text; conditions: those in each head.
-/
import Derived.Test.YtinjpobepcenfaaDoorWalkRd14
import Derived.Tactics
import Derived.Tactics2
import Derived.Defers
import Derived.Recover
import Derived.Laws.Pointers
import Derived.Deep.MidRow
namespace Go.Proofs.YtinjpobepcenfaaDoor
open Go.RowKit Go.Sort
set_option linter.unusedVariables false
/-- what the tables make sure of -/
def TabOk (z : Shp) (op : Int) : Prop :=
  (z.f = 1 ∨ z.f = 2 ∨ z.f = 3 ∨ z.f = 4 ∨ z.f = 5 ∨ z.f = 6 ∨ z.f = 7 ∨ z.f = 8 ∨ z.f = 9 ∨ z.f = 10 ∨ z.f = 11 ∨ z.f = 12 ∨ z.f = 13 ∨ z.f = 14 ∨ z.f = 15 ∨ z.f = 16 ∨ z.f = 17) ∧ (z.f = 4 ∨ z.f = 9 → op ≠ 44) ∧ (z.f = 7 → op = 29 ∨ op = 30) ∧
  (z.f = 3 ∨ z.f = 5 ∨ z.f = 8 → op ≠ 33 ∧ op ≠ 34 ∧ op ≠ 37 ∧ op ≠ 38 ∧ op ≠ 43 ∧ op ≠ 44) ∧ (0 ≤ z.g ∧ z.g ≤ 7) ∧ (z.g ≠ 0 → hasM z.f)
instance (z : Shp) (op : Int) : Decidable (TabOk z op) := by unfold TabOk; infer_instance
def opAt (z : Shp) (j : Nat) : Int := if z.g = 0 then z.o else grp (z.g - 1).toNat j
theorem tab0 : ∀ p, p < 256 → ∀ j, j < 8 → (shape1 p).f ≠ 0 → TabOk (shape1 p) (opAt (shape1 p) j) := by decide +kernel
theorem tab1 : ∀ p, p < 256 → ∀ j, j < 8 → (shape2 p).f ≠ 0 → TabOk (shape2 p) (opAt (shape2 p) j) := by decide +kernel
theorem tabOk (t : Bool) (b j : Nat) (hb : b < 256) (hj : j < 8) (h : (shapeD t b).f ≠ 0) : TabOk (shapeD t b) (opAt (shapeD t b) j) := by
  cases t
  · exact tab0 b hb j hj h
  · exact tab1 b hb j hj h
theorem stP_ok {R R1 : Rd} (h : stP R = .ok R1) : ∃ w x n, x < 80 ∧ R1 = { R with w := w, rex := x, n := n } := by
  unfold stP prefD rexD at h
  by_cases h1 : R.n < R.t.size
  · simp only [if_pos h1] at h
    by_cases h2 : nb R.t R.n = 102
    · simp only [if_pos h2] at h
      by_cases h3 : R.n + 1 < R.t.size
      · simp only [if_pos h3] at h
        by_cases h4 : nb R.t (R.n + 1) = 102 ∨ isPre (nb R.t (R.n + 1))
        · simp only [if_pos h4] at h; cases h
        · simp only [if_neg h4] at h
          by_cases h5 : 64 ≤ nb R.t (R.n + 1) ∧ nb R.t (R.n + 1) ≤ 79
          · simp only [if_pos h5] at h; cases h; exact ⟨_, _, _, by omega, rfl⟩
          · simp only [if_neg h5] at h; cases h; exact ⟨_, _, _, by omega, rfl⟩
      · simp only [if_neg h3] at h; cases h
    · simp only [h2, false_or, if_false] at h
      by_cases h4 : isPre (nb R.t R.n)
      · simp only [if_pos h4] at h; cases h
      · simp only [if_neg h4] at h
        by_cases h5 : 64 ≤ nb R.t R.n ∧ nb R.t R.n ≤ 79
        · simp only [if_pos h5] at h; cases h; exact ⟨_, _, _, by omega, rfl⟩
        · simp only [if_neg h5] at h; cases h; exact ⟨_, _, _, by omega, rfl⟩
  · simp only [if_neg h1] at h; cases h
theorem stO_ok {R R2 : Rd} (h : stO R = .ok R2) : ∃ t b n, b < 256 ∧ (shapeD t b).f ≠ 0 ∧ R2 = { R with ob := b, z := shapeD t b, op := (shapeD t b).o, n := n } := by
  unfold stO opcD at h
  by_cases h1 : R.n < R.t.size
  · simp only [if_pos h1] at h
    by_cases h2 : nb R.t R.n = 15
    · simp only [if_pos h2] at h
      by_cases h3 : R.n + 1 < R.t.size
      · simp only [if_pos h3] at h
        by_cases h4 : (shapeD true (nb R.t (R.n + 1))).f = 0
        · simp only [if_pos h4] at h; cases h
        · simp only [if_neg h4] at h; cases h; exact ⟨true, _, _, nb_lt _ _, h4, rfl⟩
      · simp only [if_neg h3] at h; cases h
    · simp only [if_neg h2] at h
      by_cases h4 : (shapeD false (nb R.t R.n)).f = 0
      · simp only [if_pos h4] at h; cases h
      · simp only [if_neg h4] at h; cases h; exact ⟨false, _, _, nb_lt _ _, h4, rfl⟩
  · simp only [if_neg h1] at h; cases h
theorem stM_ok {R R3 : Rd} (h : stM R = .ok R3) : (¬ hasM R.z.f ∧ R3 = R) ∨ ∃ b, b < 256 ∧ R3 = { R with n := R.n + 1, md := b / 64, rg := b / 8 % 8, rm := b % 8, op := if R.z.g = 0 then R.op else grp (R.z.g - 1).toNat (b / 8 % 8) } := by
  unfold stM at h
  by_cases h1 : hasM R.z.f
  · rw [if_pos h1] at h
    by_cases h2 : R.n < R.t.size
    · rw [if_pos h2] at h
      by_cases h3 : R.z.g = 0
      · rw [if_pos h3] at h; cases h; exact .inr ⟨_, nb_lt _ _, by rw [if_pos h3]⟩
      · rw [if_neg h3] at h
        by_cases h4 : grp (R.z.g - 1).toNat (nb R.t R.n / 8 % 8) = 0
        · rw [if_pos h4] at h; cases h
        · rw [if_neg h4] at h; cases h; exact .inr ⟨_, nb_lt _ _, by rw [if_neg h3]⟩
    · rw [if_neg h2] at h; cases h
  · rw [if_neg h1] at h; cases h; exact .inl ⟨h1, rfl⟩
theorem stS_ok {R R4 : Rd} (h : stS R = .ok R4) : R4 = { R with sz := sizeV R, fr := R.z.r } := by
  unfold stS at h
  by_cases h1 : (fixD R.op R.z.y).2 = true ∧ R.w = true
  · rw [if_pos h1] at h; cases h
  · rw [if_neg h1] at h
    by_cases h2 : R.z.r ≠ 0 ∧ sizeV R ≤ R.z.r
    · rw [if_pos h2] at h; cases h
    · rw [if_neg h2] at h; cases h; rfl
theorem stA_ok {R R5 : Rd} (h : stA R = .ok R5) : R5 = R := by
  unfold stA at h
  by_cases h1 : R.op = 25 ∧ R.md = 3
  · rw [if_pos h1] at h; cases h
  · rw [if_neg h1] at h; cases h; rfl
/-- a reader at its beginning -/
structure Fresh (R : Rd) : Prop where
  w : R.w = false
  x : R.rex = 0
  md : R.md = 0
  rg : R.rg = 0
  rm : R.rm = 0
  cd : R.cd = 0
  d : R.d = noOpd
  s : R.s = noOpd
theorem fixD_8 {op : Int} (y : Bool) (h : op = 29 ∨ op = 30 ∨ op = 31 ∨ op = 32) : fixD op y = (8, true) := by unfold fixD; rw [if_pos h]
theorem fixD_1 {op : Int} (y : Bool) (h : ¬ (op = 29 ∨ op = 30 ∨ op = 31 ∨ op = 32)) (h2 : ¬ (op = 33 ∨ op = 34 ∨ op = 37 ∨ op = 38 ∨ op = 43 ∨ op = 44)) : fixD op y = (1, y) := by unfold fixD; rw [if_neg h, if_neg h2]
theorem size_ok {op : Int} {y : Bool} {R : Rd} (ho : R.op = op) (hy : R.z.y = y) (h : op ≠ 33 ∧ op ≠ 34 ∧ op ≠ 37 ∧ op ≠ 38 ∧ op ≠ 43 ∧ op ≠ 44) : okSize (sizeV R) := by
  unfold sizeV
  rw [ho, hy]
  by_cases h1 : op = 29 ∨ op = 30 ∨ op = 31 ∨ op = 32
  · rw [fixD_8 y h1]; exact .inr (.inr (.inr rfl))
  · rw [fixD_1 y h1 (fun e => by rcases e with e | e | e | e | e | e <;> simp_all)]
    cases y
    · by_cases h2 : R.rex / 2 ^ 3 % 2 = 1
      · rw [if_neg (by simp), if_pos h2]; exact .inr (.inr (.inr rfl))
      · rw [if_neg (by simp), if_neg h2]
        by_cases h3 : R.w = true
        · rw [if_pos h3]; exact .inr (.inl rfl)
        · rw [if_neg h3]; exact .inr (.inr (.inl rfl))
    · exact .inl rfl
theorem size_push {R : Rd} (ho : R.op = 29 ∨ R.op = 30) : sizeV R = 8 := by
  unfold sizeV
  rw [fixD_8 R.z.y (by rcases ho with h | h <;> simp [h])]; rfl
theorem fit_all {R R1 R2 R3 R4 R5 : Rd} (F : Fresh R) (h1 : stP R = .ok R1) (h2 : stO R1 = .ok R2) (h3 : stM R2 = .ok R3) (h4 : stS R3 = .ok R4) (h5 : stA R4 = .ok R5) : Fit R5 := by
  obtain ⟨w, x, n, hx, rfl⟩ := stP_ok h1
  obtain ⟨t, b, n2, hb, hf, rfl⟩ := stO_ok h2
  obtain rfl := stS_ok h4
  obtain rfl := stA_ok h5
  have T (j : Nat) (hj : j < 8) := tabOk t b j hb hj hf
  have T0 := T 0 (by decide)
  rcases stM_ok h3 with ⟨hm, rfl⟩ | ⟨m, hm8, rfl⟩
  · have hg : (shapeD t b).g = 0 := by
      apply Classical.byContradiction; intro hg; exact hm (T0.2.2.2.2.2 hg)
    have ho : opAt (shapeD t b) 0 = (shapeD t b).o := by unfold opAt; rw [if_pos hg]
    rw [ho] at T0
    refine ⟨T0.1, T0.2.1, fun e => ?_, fun e => ?_, hx, by show R.md < 4; rw [F.md]; decide, by show R.rg < 8; rw [F.rg]; decide, by show R.rm < 8; rw [F.rm]; decide, hb, F.d, F.s⟩
    · have hp := T0.2.2.1 e
      exact ⟨size_push hp, by unfold srcOp; show (shapeD t b).o = 29 ∨ _; rcases hp with hp | hp <;> rw [hp] <;> simp⟩
    · rcases e with e | e | e | ⟨_, e⟩
      · exact size_ok rfl rfl (T0.2.2.2.1 (.inl e))
      · exact size_ok rfl rfl (T0.2.2.2.1 (.inr (.inl e)))
      · exact size_ok rfl rfl (T0.2.2.2.1 (.inr (.inr e)))
      · exact size_ok (op := 10) e rfl (by decide)
  · have T1 := T (m / 8 % 8) (by omega)
    have ho : opAt (shapeD t b) (m / 8 % 8) = (if (shapeD t b).g = 0 then (shapeD t b).o else grp ((shapeD t b).g - 1).toNat (m / 8 % 8)) := rfl
    rw [ho] at T1
    refine ⟨T1.1, T1.2.1, fun e => ?_, fun e => ?_, hx, by show m / 64 < 4; omega, by show m / 8 % 8 < 8; omega, by show m % 8 < 8; omega, hb, F.d, F.s⟩
    · have hp := T1.2.2.1 e
      exact ⟨size_push hp, by unfold srcOp; show (if (shapeD t b).g = 0 then (shapeD t b).o else grp ((shapeD t b).g - 1).toNat (m / 8 % 8)) = 29 ∨ _; simp only; rcases hp with hp | hp <;> rw [hp] <;> simp⟩
    · rcases e with e | e | e | ⟨_, e⟩
      · exact size_ok rfl rfl (T1.2.2.2.1 (.inl e))
      · exact size_ok rfl rfl (T1.2.2.2.1 (.inr (.inl e)))
      · exact size_ok rfl rfl (T1.2.2.2.1 (.inr (.inr e)))
      · exact size_ok (op := 10) e rfl (by decide)
theorem prefD_err {s : ByteArray} {n : Nat} {c : Int} (h : prefD s n = .error c) : c = 9 ∨ c = 10 := by
  unfold prefD rexD at h
  repeat' split at h
  all_goals first | (cases h; simp; done) | (cases h; done)
theorem opcD_err {s : ByteArray} {n : Nat} {c : Int} (h : opcD s n = .error c) : c = 9 ∨ c = 11 := by
  unfold opcD at h
  repeat' split at h
  all_goals first | (cases h; simp; done) | (cases h; done)
theorem stP_err {R : Rd} {c : Int} (h : stP R = .error c) : c = 9 ∨ c = 10 := by
  unfold stP at h
  cases hq : prefD R.t R.n with
  | ok q => rw [hq] at h; cases h
  | error d => rw [hq] at h; cases h; exact prefD_err hq
theorem stO_err {R : Rd} {c : Int} (h : stO R = .error c) : c = 9 ∨ c = 11 := by
  unfold stO at h
  cases hq : opcD R.t R.n with
  | ok q => rw [hq] at h; cases h
  | error d => rw [hq] at h; cases h; exact opcD_err hq
theorem stM_err {R : Rd} {c : Int} (h : stM R = .error c) : c = 9 ∨ c = 11 := by
  unfold stM at h
  repeat' split at h
  all_goals first | (cases h; simp; done) | (cases h; done)
theorem stS_err {R : Rd} {c : Int} (h : stS R = .error c) : c = 10 := by
  unfold stS at h
  repeat' split at h
  all_goals first | (cases h; rfl) | (cases h; done)
theorem stA_err {R : Rd} {c : Int} (h : stA R = .error c) : c = 12 := by
  unfold stA at h
  repeat' split at h
  all_goals first | (cases h; rfl) | (cases h; done)
def readD (R : Rd) : Except Int Rd :=
  match stP R with
  | .error c => .error c
  | .ok R1 => match stO R1 with
    | .error c => .error c
    | .ok R2 => match stM R2 with
      | .error c => .error c
      | .ok R3 => match stS R3 with
        | .error c => .error c
        | .ok R4 => match stA R4 with
          | .error c => .error c
          | .ok R5 => match stD R5 with
            | none => .error 9
            | some R6 => .ok { R6 with cd := condD R6.op R6.ob }
theorem at_end {W0 w w' : World} {g : Nat} {e : Ending} (h : StOut W0 w g (.error 9) e w') : e = endP ∧ Ch w w' g := ⟨by have := h.2; rwa [if_pos rfl] at this, h.1⟩
theorem at_bad {W0 w w' : World} {g : Nat} {e : Ending} {c : Int} (hc : c ≠ 9) (h : StOut W0 w g (.error c) e w') : e = .returned (.int .i64 c) ∧ Ch w w' g := ⟨by have := h.2; rwa [if_neg hc] at this, h.1⟩
set_option maxHeartbeats 1000000 in
theorem readC (g : Nat) (R : Rd) (W0 w : World) (aE aR : Addr) (hsn : Sent W0 aE aR) (hA : Ari W0 7) (hG : Grps W0 6) (h : At W0 w g R) (F : Fresh R) :
    Calls Tryd.prog 33 #[.pointer (some ⟨g, 0, none⟩)] w (StOut W0 w g (readD R)) := by
  unfold readD
  have K1 := fun W (hW : At W0 W g R) => prefC g R W0 W aE aR hsn hW F.x F.w (fun W hW hn => prefEnd g R W0 W aE aR hsn hW hn)
  cases h1 : stP R with
  | error c =>
    rw [h1] at K1
    rcases stP_err h1 with rfl | rfl
    · exact Calls.mono (rd0end g R W0 w h (Lib.hid fun W hW => (K1 W hW).mono fun _ _ q => at_end q)) fun e w' q => StOut.end q
    · exact Calls.mono (rd0bad g R W0 w h 10 (by decide) (Lib.hid fun W hW => (K1 W hW).mono fun _ _ q => at_bad (by decide) q)) fun e w' q => StOut.bad (by decide) q
  | ok R1 =>
    rw [h1] at K1
    have K2 := fun W (hW : At W0 W g R1) => opcC g R1 W0 W aE aR hsn hA hW
    simp only
    cases h2 : stO R1 with
    | error c =>
      rw [h2] at K2
      rcases stO_err h2 with rfl | rfl
      · exact Calls.mono (rd1end g R W0 w h R1 (Lib.hid K1) (Lib.hid fun W hW => (K2 W hW).mono fun _ _ q => at_end q)) fun e w' q => StOut.end q
      · exact Calls.mono (rd1bad g R W0 w h R1 (Lib.hid K1) 11 (by decide) (Lib.hid fun W hW => (K2 W hW).mono fun _ _ q => at_bad (by decide) q)) fun e w' q => StOut.bad (by decide) q
    | ok R2 =>
      rw [h2] at K2
      have hg7 : 0 ≤ R2.z.g ∧ R2.z.g ≤ 7 := by
        obtain ⟨t, b, n2, hb, hf, e⟩ := stO_ok h2
        rw [e]; exact (tabOk t b 0 hb (by decide) hf).2.2.2.2.1
      have K3 := fun W (hW : At W0 W g R2) => mrC g R2 W0 W aE aR hsn hG hg7 hW
      simp only
      cases h3 : stM R2 with
      | error c =>
        rw [h3] at K3
        rcases stM_err h3 with rfl | rfl
        · exact Calls.mono (rd2end g R W0 w h R1 R2 (Lib.hid K1) (Lib.hid K2) (Lib.hid fun W hW => (K3 W hW).mono fun _ _ q => at_end q)) fun e w' q => StOut.end q
        · exact Calls.mono (rd2bad g R W0 w h R1 R2 (Lib.hid K1) (Lib.hid K2) 11 (by decide) (Lib.hid fun W hW => (K3 W hW).mono fun _ _ q => at_bad (by decide) q)) fun e w' q => StOut.bad (by decide) q
      | ok R3 =>
        rw [h3] at K3
        have hx3 : R3.rex < 80 := by
          obtain ⟨w1, x, n, hx, e1⟩ := stP_ok h1
          obtain ⟨t, b, n2, hb, hf, e2⟩ := stO_ok h2
          rcases stM_ok h3 with ⟨_, e3⟩ | ⟨m, _, e3⟩ <;> rw [e3, e2, e1] <;> exact hx
        have K4 := fun W (hW : At W0 W g R3) => szC g R3 W0 W hW hx3
        simp only
        cases h4 : stS R3 with
        | error c =>
          rw [h4] at K4
          obtain rfl := stS_err h4
          exact Calls.mono (rd3bad g R W0 w h R1 R2 R3 (Lib.hid K1) (Lib.hid K2) (Lib.hid K3) 10 (by decide) (Lib.hid fun W hW => (K4 W hW).mono fun _ _ q => at_bad (by decide) q)) fun e w' q => StOut.bad (by decide) q
        | ok R4 =>
          rw [h4] at K4
          have K5 := fun W (hW : At W0 W g R4) => adC g R4 W0 W hW
          simp only
          cases h5 : stA R4 with
          | error c =>
            rw [h5] at K5
            obtain rfl := stA_err h5
            exact Calls.mono (rd4bad g R W0 w h R1 R2 R3 R4 (Lib.hid K1) (Lib.hid K2) (Lib.hid K3) (Lib.hid K4) 12 (by decide) (Lib.hid fun W hW => (K5 W hW).mono fun _ _ q => at_bad (by decide) q)) fun e w' q => StOut.bad (by decide) q
          | ok R5 =>
            rw [h5] at K5
            have FT := fit_all F h1 h2 h3 h4 h5
            have K6 := fun W (hW : At W0 W g R5) => opsC g R5 W0 W aE aR hsn hW FT
            simp only
            cases h6 : stD R5 with
            | none =>
              rw [h6] at K6
              exact Calls.mono (rd5end g R W0 w h R1 R2 R3 R4 R5 (Lib.hid K1) (Lib.hid K2) (Lib.hid K3) (Lib.hid K4) (Lib.hid K5) (Lib.hid K6)) fun e w' q => StOut.end q
            | some R6 =>
              rw [h6] at K6
              have hcd : R6.cd = 0 ∧ R6.ob < 256 := by
                unfold stD at h6
                split at h6
                · cases h6
                  obtain rfl := stA_ok h5
                  obtain e4 := stS_ok h4
                  obtain ⟨t, b, n2, hb, hf, e2⟩ := stO_ok h2
                  obtain ⟨w1, x, n, hx, e1⟩ := stP_ok h1
                  have hob := FT.ob
                  refine ⟨?_, hob⟩
                  rcases stM_ok h3 with ⟨_, e3⟩ | ⟨m, _, e3⟩ <;> rw [e4, e3, e2, e1] <;> exact F.cd
                · cases h6
              exact rdok g R W0 w h R1 R2 R3 R4 R5 (Lib.hid K1) (Lib.hid K2) (Lib.hid K3) (Lib.hid K4) (Lib.hid K5) R6 _ (Lib.hid K6) (Lib.hid fun W hW => condC g R6 W0 W hW hcd.2 hcd.1)
end Go.Proofs.YtinjpobepcenfaaDoor
namespace Go.Proofs.YtinjpobepcenfaaDoor
open Go.RowKit Go.Sort
set_option linter.unusedVariables false
/-- an instruction's cells -/
def insA (op sz cd fr : Int) (d s : Opd) (ln : Int) : Array Value := #[.int .i64 op, .int .i64 sz, .int .i64 cd, .int .i64 fr,
  .int .i64 d.k, .int .i64 d.r, .int .i64 d.b, .int .i64 d.i, .int .i64 d.s, .int .i64 d.d, .int .i64 d.m, .int .i64 s.k, .int .i64 s.r, .int .i64 s.b, .int .i64 s.i, .int .i64 s.s, .int .i64 s.d, .int .i64 s.m, .int .i64 ln]
def zIns : Array Value := insA 0 0 0 0 noOpd noOpd 0
theorem ins_one (op sz cd fr : Int) (d s : Opd) (ln : Int) : (insA op sz cd fr d s ln).all (·.oneCell') = true := by kernel_rfl
set_option maxHeartbeats 2000000 in
theorem catchP (b b' : Nat) (x : Int) (u : TypeId) (pv : Value) (older : List PanicEntry) (w : World) (hb : w.heap[b]? = some (.cells zIns 29 (0, 0))) (hc : w.cell? ⟨b', 0, none⟩ = some (.int .i64 x)) (hz : w.frozen? ⟨b', 0, none⟩ = false) (hne : b ≠ b') :
    CallsD Tryd.prog 32 #[.pointer (some ⟨b, 0, none⟩), .pointer (some ⟨b', 0, none⟩)] (.panicking ({ v := .iface u pv, recovered := false } :: older)) w fun e u' w' =>
      e = .returned (.tuple #[]) ∧ u' = .panicking ({ v := .iface u pv, recovered := true } :: older) ∧ w' = (w.setRow b zIns).setCell ⟨b', 0, none⟩ (.int .i64 9) := by
  refine callsD_of_wpS Tryd.func32 rfl fun c₀ cs hu => ?_
  apply wpS_seq
  apply wpS_region
  simp [wpOpsS, go_sem, recoverD, hu, Tryd.ntmps32, Exit.thenS]
  refine wpS_cond (t := true) (by simp [Act.eval, Array.replicate]) ?_
  simp only [if_true]
  refine wpS_of_wp ?_
  have hf1 : (w.setRow b zIns).cell? ⟨b', 0, none⟩ = some (.int .i64 x) := by
    have : (w.setRow b zIns).heap[b']? = w.heap[b']? := setRow_other _ _ _ _ (fun e => hne e.symm)
    rw [show (w.setRow b zIns).cell? ⟨b', 0, none⟩ = w.cell? ⟨b', 0, none⟩ from World.cell?_of_block (a := ⟨b', 0, none⟩) this]; exact hc
  have hf2 : (w.setRow b zIns).frozen? ⟨b', 0, none⟩ = false := by
    have : (w.setRow b zIns).heap[b']? = w.heap[b']? := setRow_other _ _ _ _ (fun e => hne e.symm)
    rw [show (w.setRow b zIns).frozen? ⟨b', 0, none⟩ = w.frozen? ⟨b', 0, none⟩ from World.frozen?_of_block (a := ⟨b', 0, none⟩) this]; exact hz
  have HB := Lib.hid hb
  clear hb
  refine (?_ : Code.wp _ _ _ { tmps := #[.pointer (some ⟨b, 0, none⟩), .pointer (some ⟨b', 0, none⟩), .iface u pv, .bool true, undef], defers := [] } w)
  go_wp2_with (refine wpList_store_row rfl 29 (.tmp 0) (.tmp 4) rfl b zIns rfl rfl 29 _ HB.out (by kernel_rfl) rfl (ins_one _ _ _ _ _ _ _) ?_)
  simp [bodyPostS, results, Tryd.results32]
set_option maxHeartbeats 1000000 in
theorem catchIdle (p q : Value) (w : World) :
    CallsD Tryd.prog 32 #[p, q] .returning w fun e u' w' => e = .returned (.tuple #[]) ∧ u' = .returning ∧ w' = w := by
  refine callsD_of_wpS Tryd.func32 rfl fun c₀ cs hu => ?_
  apply wpS_seq
  apply wpS_region
  simp [wpOpsS, go_sem, recoverD, hu, Tryd.ntmps32, Exit.thenS]
  refine wpS_cond (t := false) (by simp [Act.eval, Array.replicate]) ?_
  simp only [Bool.false_eq_true, if_false]
  refine wpS_of_wp (wp_skip ?_)
  cases c₀
  simp_all [bodyPostS, results, Tryd.results32]
theorem results_cell_cell {fn : Func} {p q : Tmp} {ty ty2 : TypeId} (h : fn.results = #[.cell p ty, .cell q ty2]) (tmps : Array Value) (P : Program) (w : World) :
    (results fn tmps).run P w =
      ((asAddr (tmps.getD p undef)).run P w).andThen fun a w₁ => ((loadVar ty a).run P w₁).andThen fun v w₂ => ((asAddr (tmps.getD q undef)).run P w₂).andThen fun a2 w₃ => ((loadVar ty2 a2).run P w₃).andThen fun v2 w₄ => .ok (.tuple #[v, v2]) w₄ := by
  simp only [results, h]
  simp [Sem.run_bind, Result.andThen]
theorem run_loadInt {a : Addr} {v : Value} (w : World) (hg2 : w.cell? a = some v) : (loadVar 3 a).run Tryd.prog w = .ok v w := by
  have u3 := Tryd.underlying3
  have a3 := Tryd.isAgg3
  have z3 := Tryd.sizeOf3
  simp [go_sem, hg2]
theorem results_cell2 {fn : Func} {p q : Tmp} {ty : TypeId} (h : fn.results = #[.cell p ty, .cell q 3]) (tmps : Array Value) (w : World) (g g2 : Nat) (cs : Array Value) (v : Value)
    (hp : tmps.getD p undef = .pointer (some ⟨g, 0, none⟩)) (hq : tmps.getD q undef = .pointer (some ⟨g2, 0, none⟩)) (hl : (loadVar ty ⟨g, 0, none⟩).run Tryd.prog w = .ok (.agg cs) w) (hg2 : w.cell? ⟨g2, 0, none⟩ = some v) :
    (results fn tmps).run Tryd.prog w = .ok (.tuple #[.agg cs, v]) w := by
  rw [results_cell_cell h, hp, hq]
  simp [asAddr, hl, run_loadInt w hg2]
theorem load_ins {w : World} {g : Nat} {cs : Array Value} (hs : cs.size = 19) (hg : w.heap[g]? = some (.cells cs 29 (0, 0))) : (loadVar 29 ⟨g, 0, none⟩).run Tryd.prog w = .ok (.agg cs) w :=
  run_loadVar_row w g 29 29 cs (0, 0) _ hg Tryd.underlying29 rfl (by rw [hs]; kernel_rfl)
/-- a reader at its beginning, at place n of t -/
def start (t : ByteArray) (n : Nat) : Rd := ⟨t, n, false, 0, 0, noShp, 0, 0, 0, 0, 0, 0, 0, noOpd, noOpd, 0⟩
theorem start_fresh (t : ByteArray) (n : Nat) : Fresh (start t n) := ⟨rfl, rfl, rfl, rfl, rfl, rfl, rfl, rfl⟩
def DecOut (cs : Array Value) (c : Int) (w : World) (e : Ending) (w' : World) : Prop := e = .returned (.tuple #[.agg cs, .int .i64 c]) ∧ Below w.heap.size w w'
theorem W2_row (w : World) : ((w.alloc (.cells zIns 29)).alloc (.cells #[.int .i64 0] 3)).heap[w.heap.size]? = some (.cells zIns 29 (0, 0)) := (Below.heap_alloc _ _ _ (by simp)).trans (heap_alloc_new w _)
theorem W2_int (w : World) : ((w.alloc (.cells zIns 29)).alloc (.cells #[.int .i64 0] 3)).heap[w.heap.size + 1]? = some (.cells #[.int .i64 0] 3 (0, 0)) := by
  have := heap_alloc_new (w.alloc (.cells zIns 29)) (.cells #[.int .i64 0] 3)
  simpa using this
/-- the two results' blocks: an instruction and a code -/
structure Res (W : World) (b : Nat) (cs : Array Value) (c : Int) : Prop where
  row : W.heap[b]? = some (.cells cs 29 (0, 0))
  int : W.heap[b + 1]? = some (.cells #[.int .i64 c] 3 (0, 0))
theorem Res.cell {W : World} {b : Nat} {cs : Array Value} {c : Int} (h : Res W b cs c) : W.cell? ⟨b + 1, 0, none⟩ = some (.int .i64 c) := cell_of_row W (b + 1) 0 _ _ (0, 0) h.int
theorem Res.free {W : World} {b : Nat} {cs : Array Value} {c : Int} (h : Res W b cs c) : W.frozen? ⟨b + 1, 0, none⟩ = false := by simp [World.frozen?, h.int]
theorem Res.setRow {W : World} {b : Nat} {cs cs' : Array Value} {c : Int} (h : Res W b cs c) (hs : cs'.size = cs.size) : Res (W.setRow b cs') b cs' c :=
  ⟨setRow_heap _ _ _ _ _ _ h.row, (setRow_other _ _ _ _ (by omega)).trans h.int⟩
theorem Res.setInt {W : World} {b : Nat} {cs : Array Value} {c : Int} (h : Res W b cs c) (d : Int) : Res (W.setCell ⟨b + 1, 0, none⟩ (.int .i64 d)) b cs d := by
  refine ⟨(Below.heap_setCell _ _ _ _ (by simp)).trans h.row, ?_⟩
  have := h.int
  simp [World.setCell, Array.getElem?_modify, this]
theorem Res.new (w : World) : Res ((w.alloc (.cells zIns 29)).alloc (.cells #[.int .i64 0] 3)) w.heap.size zIns 0 := ⟨W2_row w, W2_int w⟩
theorem bel2 (w : World) (a b : Obj) : Below w.heap.size w ((w.alloc a).alloc b) := ((Below.refl _ _).alloc (Nat.le_refl _) _).alloc (by simp) _
theorem below_setI {w W : World} (h : Below w.heap.size w W) (v : Value) : Below w.heap.size w (W.setCell ⟨w.heap.size + 1, 0, none⟩ v) := h.setCell (by show _ ≤ w.heap.size + 1; omega) v
/-- what is answered, out of the two blocks -/
theorem Res.out {W : World} {b : Nat} {cs : Array Value} {c : Int} (h : Res W b cs c) (hs : cs.size = 19) (tmps : Array Value) (h4 : tmps.getD 4 undef = .pointer (some ⟨b, 0, none⟩)) (h5 : tmps.getD 5 undef = .pointer (some ⟨b + 1, 0, none⟩)) :
    (results Tryd.f12 tmps).run Tryd.prog W = .ok (.tuple #[.agg cs, .int .i64 c]) W :=
  results_cell2 Tryd.results12 _ _ b (b + 1) cs (.int .i64 c) h4 h5 (load_ins hs h.row) h.cell
set_option maxHeartbeats 2000000 in
theorem decLong (s : ByteArray) (n : Int) (w : World) (hs : 65536 < s.size) (hm : s.size ≤ maxLen) :
    Calls Tryd.prog 12 #[.string s, .int .i64 n] w (DecOut zIns 2 w) := by
  unfold maxLen at hm
  have hs' : (65536 : Int) < s.size := by omega
  have R1 := Lib.hid ((Res.new w).setRow (cs' := zIns) rfl)
  have HZ := Lib.hid (Res.new w).row
  have hc : (((w.alloc (.cells #[.int .i64 0, .int .i64 0, .int .i64 0, .int .i64 0, .int .i64 0, .int .i64 0, .int .i64 0, .int .i64 0, .int .i64 0, .int .i64 0, .int .i64 0, .int .i64 0, .int .i64 0, .int .i64 0, .int .i64 0, .int .i64 0, .int .i64 0, .int .i64 0, .int .i64 0] 29)).alloc (.cells #[.int .i64 0] 3)).setRow w.heap.size zIns).cell? ⟨w.heap.size + 1, 0, none⟩ = some (.int .i64 0) := R1.out.cell
  have hf : (((w.alloc (.cells #[.int .i64 0, .int .i64 0, .int .i64 0, .int .i64 0, .int .i64 0, .int .i64 0, .int .i64 0, .int .i64 0, .int .i64 0, .int .i64 0, .int .i64 0, .int .i64 0, .int .i64 0, .int .i64 0, .int .i64 0, .int .i64 0, .int .i64 0, .int .i64 0, .int .i64 0] 29)).alloc (.cells #[.int .i64 0] 3)).setRow w.heap.size zIns).frozen? ⟨w.heap.size + 1, 0, none⟩ = false := R1.out.free
  have HB := Lib.hid (bel2 w (.cells zIns 29) (.cells #[.int .i64 0] 3))
  clear hs
  go_enter_defers Tryd.func12, Tryd.ntmps12
  go_wp2_with (refine wpList_store_row rfl 29 (.tmp 4) (.tmp 10) rfl w.heap.size zIns rfl rfl 29 _ HZ.out (by kernel_rfl) rfl (ins_one _ _ _ _ _ _ _) ?_)
  exact ⟨_, (R1.out.setInt 2).out rfl _ rfl rfl, rfl, below_setI (below_setRow HB.out) _⟩
end Go.Proofs.YtinjpobepcenfaaDoor
namespace Go.Proofs.YtinjpobepcenfaaDoor
open Go.RowKit Go.Sort
set_option linter.unusedVariables false
theorem Res.ch {W W' : World} {b g : Nat} {cs : Array Value} {c : Int} (h : Res W b cs c) (hc : Ch W W' g) (h1 : b ≠ g) (h2 : b + 1 ≠ g) : Res W' b cs c :=
  ⟨(hc.block _ (lt_of_blk h.row) (fun e => h1 (Option.some.inj e))).trans h.row, (hc.block _ (lt_of_blk h.int) (fun e => h2 (Option.some.inj e))).trans h.int⟩
theorem Res.new3 (w : World) (x : Obj) (cs : Array Value) : Res ((((w.alloc (.cells zIns 29)).alloc (.cells #[.int .i64 0] 3)).alloc x).setRow (w.heap.size + 2) cs) w.heap.size zIns 0 :=
  ⟨(setRow_other _ _ _ _ (by omega)).trans ((Below.heap_alloc _ _ _ (by simp; omega)).trans (Res.new w).row), (setRow_other _ _ _ _ (by omega)).trans ((Below.heap_alloc _ _ _ (by simp)).trans (Res.new w).int)⟩
theorem bel3 (w : World) (a b c : Obj) : Below w.heap.size w (((w.alloc a).alloc b).alloc c) := (bel2 w a b).alloc (by simp; omega) _
theorem bel3r (w : World) (a b c : Obj) (cs : Array Value) : Below w.heap.size w ((((w.alloc a).alloc b).alloc c).setRow (w.heap.size + 2) cs) := by
  have h := bel3 w a b c
  exact ⟨h.os, h.tape, h.output, by rw [setRow_size]; exact h.size, fun i hi => by rw [setRow_other _ _ _ _ (by omega)]; exact h.block i hi⟩
theorem row3 (w : World) : (((w.alloc (.cells #[.int .i64 0, .int .i64 0, .int .i64 0, .int .i64 0, .int .i64 0, .int .i64 0, .int .i64 0, .int .i64 0, .int .i64 0, .int .i64 0, .int .i64 0, .int .i64 0, .int .i64 0, .int .i64 0, .int .i64 0, .int .i64 0, .int .i64 0, .int .i64 0, .int .i64 0] 29)).alloc (.cells #[.int .i64 0] 3)).alloc (.cells #[.string ⟨#[]⟩, .int .i64 0, .bool false, .int .i64 0, .int .i64 0, .int .i64 0, .int .i64 0, .int .i64 0, .bool false, .int .i64 0, .int .i64 0, .int .i64 0, .int .i64 0, .int .i64 0, .int .i64 0, .int .i64 0, .int .i64 0, .int .i64 0, .int .i64 0, .int .i64 0, .int .i64 0, .int .i64 0, .int .i64 0, .int .i64 0, .int .i64 0, .int .i64 0, .int .i64 0, .int .i64 0, .int .i64 0, .int .i64 0, .int .i64 0, .int .i64 0] 57)).heap[w.heap.size + 2]? = some ((.cells #[.string ⟨#[]⟩, .int .i64 0, .bool false, .int .i64 0, .int .i64 0, .int .i64 0, .int .i64 0, .int .i64 0, .bool false, .int .i64 0, .int .i64 0, .int .i64 0, .int .i64 0, .int .i64 0, .int .i64 0, .int .i64 0, .int .i64 0, .int .i64 0, .int .i64 0, .int .i64 0, .int .i64 0, .int .i64 0, .int .i64 0, .int .i64 0, .int .i64 0, .int .i64 0, .int .i64 0, .int .i64 0, .int .i64 0, .int .i64 0, .int .i64 0, .int .i64 0] 57) : Obj) := by
  have := heap_alloc_new ((w.alloc (.cells zIns 29)).alloc (.cells #[.int .i64 0] 3)) (.cells #[.string ⟨#[]⟩, .int .i64 0, .bool false, .int .i64 0, .int .i64 0, .int .i64 0, .int .i64 0, .int .i64 0, .bool false, .int .i64 0, .int .i64 0, .int .i64 0, .int .i64 0, .int .i64 0, .int .i64 0, .int .i64 0, .int .i64 0, .int .i64 0, .int .i64 0, .int .i64 0, .int .i64 0, .int .i64 0, .int .i64 0, .int .i64 0, .int .i64 0, .int .i64 0, .int .i64 0, .int .i64 0, .int .i64 0, .int .i64 0, .int .i64 0, .int .i64 0] 57)
  simp only [World.size_alloc] at this
  exact this
theorem rd_one (t : ByteArray) (n : Int) : (#[.string t, .int .i64 n, .bool false, .int .i64 0, .int .i64 0, .int .i64 0, .int .i64 0, .int .i64 0, .bool false, .int .i64 0, .int .i64 0, .int .i64 0, .int .i64 0, .int .i64 0, .int .i64 0, .int .i64 0, .int .i64 0, .int .i64 0, .int .i64 0, .int .i64 0, .int .i64 0, .int .i64 0, .int .i64 0, .int .i64 0, .int .i64 0, .int .i64 0, .int .i64 0, .int .i64 0, .int .i64 0, .int .i64 0, .int .i64 0, .int .i64 0] : Array Value).all (·.oneCell') = true := by kernel_rfl
theorem start_at (s : ByteArray) (n : Nat) (w : World) (hs : s.size ≤ 65536) (hn : n ≤ s.size) : At w ((((w.alloc (.cells #[.int .i64 0, .int .i64 0, .int .i64 0, .int .i64 0, .int .i64 0, .int .i64 0, .int .i64 0, .int .i64 0, .int .i64 0, .int .i64 0, .int .i64 0, .int .i64 0, .int .i64 0, .int .i64 0, .int .i64 0, .int .i64 0, .int .i64 0, .int .i64 0, .int .i64 0] 29)).alloc (.cells #[.int .i64 0] 3)).alloc (.cells #[.string ⟨#[]⟩, .int .i64 0, .bool false, .int .i64 0, .int .i64 0, .int .i64 0, .int .i64 0, .int .i64 0, .bool false, .int .i64 0, .int .i64 0, .int .i64 0, .int .i64 0, .int .i64 0, .int .i64 0, .int .i64 0, .int .i64 0, .int .i64 0, .int .i64 0, .int .i64 0, .int .i64 0, .int .i64 0, .int .i64 0, .int .i64 0, .int .i64 0, .int .i64 0, .int .i64 0, .int .i64 0, .int .i64 0, .int .i64 0, .int .i64 0, .int .i64 0] 57)).setRow (w.heap.size + 2) #[.string s, .int .i64 (n : Int), .bool false, .int .i64 0, .int .i64 0, .int .i64 0, .int .i64 0, .int .i64 0, .bool false, .int .i64 0, .int .i64 0, .int .i64 0, .int .i64 0, .int .i64 0, .int .i64 0, .int .i64 0, .int .i64 0, .int .i64 0, .int .i64 0, .int .i64 0, .int .i64 0, .int .i64 0, .int .i64 0, .int .i64 0, .int .i64 0, .int .i64 0, .int .i64 0, .int .i64 0, .int .i64 0, .int .i64 0, .int .i64 0, .int .i64 0]) (w.heap.size + 2) (start s n) :=
  ⟨setRow_heap _ _ _ _ _ _ (row3 w), by omega, bel3r w _ _ _ _, hs, hn⟩
set_option maxRecDepth 100000 in
set_option maxHeartbeats 4000000 in
theorem decEnd (s : ByteArray) (n : Nat) (w : World) (hs : s.size ≤ 65536) (hn : n ≤ s.size)
    (C : Hid (Calls Tryd.prog 33 #[.pointer (some ⟨w.heap.size + 2, 0, none⟩)] ((((w.alloc (.cells #[.int .i64 0, .int .i64 0, .int .i64 0, .int .i64 0, .int .i64 0, .int .i64 0, .int .i64 0, .int .i64 0, .int .i64 0, .int .i64 0, .int .i64 0, .int .i64 0, .int .i64 0, .int .i64 0, .int .i64 0, .int .i64 0, .int .i64 0, .int .i64 0, .int .i64 0] 29)).alloc (.cells #[.int .i64 0] 3)).alloc (.cells #[.string ⟨#[]⟩, .int .i64 0, .bool false, .int .i64 0, .int .i64 0, .int .i64 0, .int .i64 0, .int .i64 0, .bool false, .int .i64 0, .int .i64 0, .int .i64 0, .int .i64 0, .int .i64 0, .int .i64 0, .int .i64 0, .int .i64 0, .int .i64 0, .int .i64 0, .int .i64 0, .int .i64 0, .int .i64 0, .int .i64 0, .int .i64 0, .int .i64 0, .int .i64 0, .int .i64 0, .int .i64 0, .int .i64 0, .int .i64 0, .int .i64 0, .int .i64 0] 57)).setRow (w.heap.size + 2) #[.string s, .int .i64 (n : Int), .bool false, .int .i64 0, .int .i64 0, .int .i64 0, .int .i64 0, .int .i64 0, .bool false, .int .i64 0, .int .i64 0, .int .i64 0, .int .i64 0, .int .i64 0, .int .i64 0, .int .i64 0, .int .i64 0, .int .i64 0, .int .i64 0, .int .i64 0, .int .i64 0, .int .i64 0, .int .i64 0, .int .i64 0, .int .i64 0, .int .i64 0, .int .i64 0, .int .i64 0, .int .i64 0, .int .i64 0, .int .i64 0, .int .i64 0]) fun e w' => e = endP ∧ Ch ((((w.alloc (.cells #[.int .i64 0, .int .i64 0, .int .i64 0, .int .i64 0, .int .i64 0, .int .i64 0, .int .i64 0, .int .i64 0, .int .i64 0, .int .i64 0, .int .i64 0, .int .i64 0, .int .i64 0, .int .i64 0, .int .i64 0, .int .i64 0, .int .i64 0, .int .i64 0, .int .i64 0] 29)).alloc (.cells #[.int .i64 0] 3)).alloc (.cells #[.string ⟨#[]⟩, .int .i64 0, .bool false, .int .i64 0, .int .i64 0, .int .i64 0, .int .i64 0, .int .i64 0, .bool false, .int .i64 0, .int .i64 0, .int .i64 0, .int .i64 0, .int .i64 0, .int .i64 0, .int .i64 0, .int .i64 0, .int .i64 0, .int .i64 0, .int .i64 0, .int .i64 0, .int .i64 0, .int .i64 0, .int .i64 0, .int .i64 0, .int .i64 0, .int .i64 0, .int .i64 0, .int .i64 0, .int .i64 0, .int .i64 0, .int .i64 0] 57)).setRow (w.heap.size + 2) #[.string s, .int .i64 (n : Int), .bool false, .int .i64 0, .int .i64 0, .int .i64 0, .int .i64 0, .int .i64 0, .bool false, .int .i64 0, .int .i64 0, .int .i64 0, .int .i64 0, .int .i64 0, .int .i64 0, .int .i64 0, .int .i64 0, .int .i64 0, .int .i64 0, .int .i64 0, .int .i64 0, .int .i64 0, .int .i64 0, .int .i64 0, .int .i64 0, .int .i64 0, .int .i64 0, .int .i64 0, .int .i64 0, .int .i64 0, .int .i64 0, .int .i64 0]) w' (w.heap.size + 2))) :
    Calls Tryd.prog 12 #[.string s, .int .i64 (n : Int)] w (DecOut zIns 9 w) := by
  have hmf := mkFuncD
  have hs' : (s.size : Int) ≤ 65536 := by omega
  have hn' : (n : Int) ≤ s.size := by omega
  have d1 : decide ((65536 : Int) < s.size) = false := decide_eq_false (by omega)
  have d2 : decide ((s.size : Int) < n) = false := decide_eq_false (by omega)
  have R3 := Lib.hid (Res.new3 w (.cells #[.string ⟨#[]⟩, .int .i64 0, .bool false, .int .i64 0, .int .i64 0, .int .i64 0, .int .i64 0, .int .i64 0, .bool false, .int .i64 0, .int .i64 0, .int .i64 0, .int .i64 0, .int .i64 0, .int .i64 0, .int .i64 0, .int .i64 0, .int .i64 0, .int .i64 0, .int .i64 0, .int .i64 0, .int .i64 0, .int .i64 0, .int .i64 0, .int .i64 0, .int .i64 0, .int .i64 0, .int .i64 0, .int .i64 0, .int .i64 0, .int .i64 0, .int .i64 0] 57) #[.string s, .int .i64 (n : Int), .bool false, .int .i64 0, .int .i64 0, .int .i64 0, .int .i64 0, .int .i64 0, .bool false, .int .i64 0, .int .i64 0, .int .i64 0, .int .i64 0, .int .i64 0, .int .i64 0, .int .i64 0, .int .i64 0, .int .i64 0, .int .i64 0, .int .i64 0, .int .i64 0, .int .i64 0, .int .i64 0, .int .i64 0, .int .i64 0, .int .i64 0, .int .i64 0, .int .i64 0, .int .i64 0, .int .i64 0, .int .i64 0, .int .i64 0])
  have B3 := Lib.hid (bel3r w (.cells #[.int .i64 0, .int .i64 0, .int .i64 0, .int .i64 0, .int .i64 0, .int .i64 0, .int .i64 0, .int .i64 0, .int .i64 0, .int .i64 0, .int .i64 0, .int .i64 0, .int .i64 0, .int .i64 0, .int .i64 0, .int .i64 0, .int .i64 0, .int .i64 0, .int .i64 0] 29) (.cells #[.int .i64 0] 3) (.cells #[.string ⟨#[]⟩, .int .i64 0, .bool false, .int .i64 0, .int .i64 0, .int .i64 0, .int .i64 0, .int .i64 0, .bool false, .int .i64 0, .int .i64 0, .int .i64 0, .int .i64 0, .int .i64 0, .int .i64 0, .int .i64 0, .int .i64 0, .int .i64 0, .int .i64 0, .int .i64 0, .int .i64 0, .int .i64 0, .int .i64 0, .int .i64 0, .int .i64 0, .int .i64 0, .int .i64 0, .int .i64 0, .int .i64 0, .int .i64 0, .int .i64 0, .int .i64 0] 57) #[.string s, .int .i64 (n : Int), .bool false, .int .i64 0, .int .i64 0, .int .i64 0, .int .i64 0, .int .i64 0, .bool false, .int .i64 0, .int .i64 0, .int .i64 0, .int .i64 0, .int .i64 0, .int .i64 0, .int .i64 0, .int .i64 0, .int .i64 0, .int .i64 0, .int .i64 0, .int .i64 0, .int .i64 0, .int .i64 0, .int .i64 0, .int .i64 0, .int .i64 0, .int .i64 0, .int .i64 0, .int .i64 0, .int .i64 0, .int .i64 0, .int .i64 0])
  clear hs hn
  unfold endP at *
  go_enter_defers Tryd.func12, Tryd.ntmps12
  have HR := Lib.hid (row3 w)
  go_wp2_with (refine wpList_store_row rfl 57 (.tmp 6) (.tmp 23) rfl (w.heap.size + 2) #[.string s, .int .i64 (n : Int), .bool false, .int .i64 0, .int .i64 0, .int .i64 0, .int .i64 0, .int .i64 0, .bool false, .int .i64 0, .int .i64 0, .int .i64 0, .int .i64 0, .int .i64 0, .int .i64 0, .int .i64 0, .int .i64 0, .int .i64 0, .int .i64 0, .int .i64 0, .int .i64 0, .int .i64 0, .int .i64 0, .int .i64 0, .int .i64 0, .int .i64 0, .int .i64 0, .int .i64 0, .int .i64 0, .int .i64 0, .int .i64 0, .int .i64 0] rfl rfl 57 _ HR.out (by kernel_rfl) rfl (rd_one _ _) ?_)
  refine Calls.mono C.out ?_
  rintro e w4 ⟨rfl, hc⟩
  have R4 := Lib.hid (R3.out.ch hc (by omega) (by omega))
  have B4 := Lib.hid (below_ch B3.out (by omega : w.heap.size ≤ w.heap.size + 2) hc)
  clear hc
  go_wp2
  refine leaves_cons (f := 32) (args := #[.pointer (some ⟨w.heap.size, 0, none⟩), .pointer (some ⟨w.heap.size + 1, 0, none⟩)]) (by simp) (by simp [go_sem]) ?_
  refine (catchP w.heap.size (w.heap.size + 1) 0 111 (.agg #[]) [] _ R4.out.row R4.out.cell R4.out.free (by omega)).mono ?_
  rintro e u' w'' ⟨rfl, rfl, rfl⟩
  exact ⟨_, ((R4.out.setRow (cs' := zIns) rfl).setInt 9).out rfl _ rfl rfl, rfl, below_setI (below_setRow B4.out) _⟩
theorem rd_ins (R : Rd) : ∀ j, j < 19 → (rdA R)[13 + j]? = (insA R.op R.sz R.cd R.fr R.d R.s R.ln)[j]?
  | 0, _ => rfl
  | 1, _ => rfl
  | 2, _ => rfl
  | 3, _ => rfl
  | 4, _ => rfl
  | 5, _ => rfl
  | 6, _ => rfl
  | 7, _ => rfl
  | 8, _ => rfl
  | 9, _ => rfl
  | 10, _ => rfl
  | 11, _ => rfl
  | 12, _ => rfl
  | 13, _ => rfl
  | 14, _ => rfl
  | 15, _ => rfl
  | 16, _ => rfl
  | 17, _ => rfl
  | 18, _ => rfl
  | k + 19, h => by omega
theorem RB.ins {W : World} {g : Nat} {R : Rd} (h : RB W g R) : W.rangeAt g 13 (insA R.op R.sz R.cd R.fr R.d R.s R.ln).toList := by
  intro j v hv
  have hj : j < 19 := (List.getElem?_eq_some_iff.1 hv).1
  rw [h.cell (13 + j), rd_ins R j hj, ← Array.getElem?_toList]; exact hv
theorem Res.other {W : World} {b g i : Nat} {cs : Array Value} {c : Int} {v : Value} (h : Res W b cs c) (h1 : b ≠ g) (h2 : b + 1 ≠ g) : Res (W.setCell ⟨g, i, none⟩ v) b cs c :=
  ⟨(Below.heap_setCell _ _ _ _ (by simpa using h1)).trans h.row, (Below.heap_setCell _ _ _ _ (by simpa using h2)).trans h.int⟩
theorem below_setG {w W : World} (h : Below w.heap.size w W) (i : Nat) (v : Value) : Below w.heap.size w (W.setCell ⟨w.heap.size + 2, i, none⟩ v) := h.setCell (by show _ ≤ w.heap.size + 2; omega) v
set_option maxRecDepth 100000 in
set_option maxHeartbeats 4000000 in
theorem decOk (s : ByteArray) (n : Nat) (R : Rd) (w : World) (hs : s.size ≤ 65536) (hn : n ≤ s.size) (hRn : R.n ≤ 65536)
    (C : Hid (Calls Tryd.prog 33 #[.pointer (some ⟨w.heap.size + 2, 0, none⟩)] ((((w.alloc (.cells #[.int .i64 0, .int .i64 0, .int .i64 0, .int .i64 0, .int .i64 0, .int .i64 0, .int .i64 0, .int .i64 0, .int .i64 0, .int .i64 0, .int .i64 0, .int .i64 0, .int .i64 0, .int .i64 0, .int .i64 0, .int .i64 0, .int .i64 0, .int .i64 0, .int .i64 0] 29)).alloc (.cells #[.int .i64 0] 3)).alloc (.cells #[.string ⟨#[]⟩, .int .i64 0, .bool false, .int .i64 0, .int .i64 0, .int .i64 0, .int .i64 0, .int .i64 0, .bool false, .int .i64 0, .int .i64 0, .int .i64 0, .int .i64 0, .int .i64 0, .int .i64 0, .int .i64 0, .int .i64 0, .int .i64 0, .int .i64 0, .int .i64 0, .int .i64 0, .int .i64 0, .int .i64 0, .int .i64 0, .int .i64 0, .int .i64 0, .int .i64 0, .int .i64 0, .int .i64 0, .int .i64 0, .int .i64 0, .int .i64 0] 57)).setRow (w.heap.size + 2) #[.string s, .int .i64 (n : Int), .bool false, .int .i64 0, .int .i64 0, .int .i64 0, .int .i64 0, .int .i64 0, .bool false, .int .i64 0, .int .i64 0, .int .i64 0, .int .i64 0, .int .i64 0, .int .i64 0, .int .i64 0, .int .i64 0, .int .i64 0, .int .i64 0, .int .i64 0, .int .i64 0, .int .i64 0, .int .i64 0, .int .i64 0, .int .i64 0, .int .i64 0, .int .i64 0, .int .i64 0, .int .i64 0, .int .i64 0, .int .i64 0, .int .i64 0]) fun e w' => e = .returned (.int .i64 0) ∧ Wr w ((((w.alloc (.cells #[.int .i64 0, .int .i64 0, .int .i64 0, .int .i64 0, .int .i64 0, .int .i64 0, .int .i64 0, .int .i64 0, .int .i64 0, .int .i64 0, .int .i64 0, .int .i64 0, .int .i64 0, .int .i64 0, .int .i64 0, .int .i64 0, .int .i64 0, .int .i64 0, .int .i64 0] 29)).alloc (.cells #[.int .i64 0] 3)).alloc (.cells #[.string ⟨#[]⟩, .int .i64 0, .bool false, .int .i64 0, .int .i64 0, .int .i64 0, .int .i64 0, .int .i64 0, .bool false, .int .i64 0, .int .i64 0, .int .i64 0, .int .i64 0, .int .i64 0, .int .i64 0, .int .i64 0, .int .i64 0, .int .i64 0, .int .i64 0, .int .i64 0, .int .i64 0, .int .i64 0, .int .i64 0, .int .i64 0, .int .i64 0, .int .i64 0, .int .i64 0, .int .i64 0, .int .i64 0, .int .i64 0, .int .i64 0, .int .i64 0] 57)).setRow (w.heap.size + 2) #[.string s, .int .i64 (n : Int), .bool false, .int .i64 0, .int .i64 0, .int .i64 0, .int .i64 0, .int .i64 0, .bool false, .int .i64 0, .int .i64 0, .int .i64 0, .int .i64 0, .int .i64 0, .int .i64 0, .int .i64 0, .int .i64 0, .int .i64 0, .int .i64 0, .int .i64 0, .int .i64 0, .int .i64 0, .int .i64 0, .int .i64 0, .int .i64 0, .int .i64 0, .int .i64 0, .int .i64 0, .int .i64 0, .int .i64 0, .int .i64 0, .int .i64 0]) w' (w.heap.size + 2) R)) :
    Calls Tryd.prog 12 #[.string s, .int .i64 (n : Int)] w (DecOut (insA R.op R.sz R.cd R.fr R.d R.s ((R.n : Int) - (n : Int))) 0 w) := by
  have hmf := mkFuncD
  have hs' : (s.size : Int) ≤ 65536 := by omega
  have hn' : (n : Int) ≤ s.size := by omega
  have hR' : (R.n : Int) ≤ 65536 := by omega
  have d1 : decide ((65536 : Int) < s.size) = false := decide_eq_false (by omega)
  have d2 : decide ((s.size : Int) < n) = false := decide_eq_false (by omega)
  have R3 := Lib.hid (Res.new3 w (.cells #[.string ⟨#[]⟩, .int .i64 0, .bool false, .int .i64 0, .int .i64 0, .int .i64 0, .int .i64 0, .int .i64 0, .bool false, .int .i64 0, .int .i64 0, .int .i64 0, .int .i64 0, .int .i64 0, .int .i64 0, .int .i64 0, .int .i64 0, .int .i64 0, .int .i64 0, .int .i64 0, .int .i64 0, .int .i64 0, .int .i64 0, .int .i64 0, .int .i64 0, .int .i64 0, .int .i64 0, .int .i64 0, .int .i64 0, .int .i64 0, .int .i64 0, .int .i64 0] 57) #[.string s, .int .i64 (n : Int), .bool false, .int .i64 0, .int .i64 0, .int .i64 0, .int .i64 0, .int .i64 0, .bool false, .int .i64 0, .int .i64 0, .int .i64 0, .int .i64 0, .int .i64 0, .int .i64 0, .int .i64 0, .int .i64 0, .int .i64 0, .int .i64 0, .int .i64 0, .int .i64 0, .int .i64 0, .int .i64 0, .int .i64 0, .int .i64 0, .int .i64 0, .int .i64 0, .int .i64 0, .int .i64 0, .int .i64 0, .int .i64 0, .int .i64 0])
  have B3 := Lib.hid (bel3r w (.cells #[.int .i64 0, .int .i64 0, .int .i64 0, .int .i64 0, .int .i64 0, .int .i64 0, .int .i64 0, .int .i64 0, .int .i64 0, .int .i64 0, .int .i64 0, .int .i64 0, .int .i64 0, .int .i64 0, .int .i64 0, .int .i64 0, .int .i64 0, .int .i64 0, .int .i64 0] 29) (.cells #[.int .i64 0] 3) (.cells #[.string ⟨#[]⟩, .int .i64 0, .bool false, .int .i64 0, .int .i64 0, .int .i64 0, .int .i64 0, .int .i64 0, .bool false, .int .i64 0, .int .i64 0, .int .i64 0, .int .i64 0, .int .i64 0, .int .i64 0, .int .i64 0, .int .i64 0, .int .i64 0, .int .i64 0, .int .i64 0, .int .i64 0, .int .i64 0, .int .i64 0, .int .i64 0, .int .i64 0, .int .i64 0, .int .i64 0, .int .i64 0, .int .i64 0, .int .i64 0, .int .i64 0, .int .i64 0] 57) #[.string s, .int .i64 (n : Int), .bool false, .int .i64 0, .int .i64 0, .int .i64 0, .int .i64 0, .int .i64 0, .bool false, .int .i64 0, .int .i64 0, .int .i64 0, .int .i64 0, .int .i64 0, .int .i64 0, .int .i64 0, .int .i64 0, .int .i64 0, .int .i64 0, .int .i64 0, .int .i64 0, .int .i64 0, .int .i64 0, .int .i64 0, .int .i64 0, .int .i64 0, .int .i64 0, .int .i64 0, .int .i64 0, .int .i64 0, .int .i64 0, .int .i64 0])
  clear hs hn hRn
  go_enter_defers Tryd.func12, Tryd.ntmps12
  have HR := Lib.hid (row3 w)
  go_wp2_with (refine wpList_store_row rfl 57 (.tmp 6) (.tmp 23) rfl (w.heap.size + 2) #[.string s, .int .i64 (n : Int), .bool false, .int .i64 0, .int .i64 0, .int .i64 0, .int .i64 0, .int .i64 0, .bool false, .int .i64 0, .int .i64 0, .int .i64 0, .int .i64 0, .int .i64 0, .int .i64 0, .int .i64 0, .int .i64 0, .int .i64 0, .int .i64 0, .int .i64 0, .int .i64 0, .int .i64 0, .int .i64 0, .int .i64 0, .int .i64 0, .int .i64 0, .int .i64 0, .int .i64 0, .int .i64 0, .int .i64 0, .int .i64 0, .int .i64 0] rfl rfl 57 _ HR.out (by kernel_rfl) rfl (rd_one _ _) ?_)
  refine Calls.mono C.out ?_
  rintro e w4 ⟨rfl, h4⟩
  have R4 := Lib.hid (R3.out.ch h4.2 (by omega) (by omega))
  have B4 := Lib.hid (below_ch B3.out (by omega : w.heap.size ≤ w.heap.size + 2) h4.2)
  have c1 := h4.1.rb.cell 1; have c31 := h4.1.rb.cell 31
  simp only [rdA, List.getElem?_toArray, List.getElem?_cons_zero, List.getElem?_cons_succ] at c1 c31
  have f31 := h4.1.rb.free 31
  have e5 := R4.out.cell; have z5 := R4.out.free
  have R5 := Lib.hid ((R4.out.setInt 0).other (g := w.heap.size + 2) (i := 31) (v := .int .i64 ((R.n : Int) - (n : Int))) (by omega) (by omega))
  have hV : RB ((w4.setCell ⟨w.heap.size + 1, 0, none⟩ (.int .i64 0)).setCell ⟨w.heap.size + 2, 31, none⟩ (.int .i64 ((R.n : Int) - (n : Int)))) (w.heap.size + 2) { R with ln := (R.n : Int) - (n : Int) } :=
    RB.set (R := R) ((Below.heap_setCell _ _ _ _ (by simp)).trans h4.1.rb) 31 _ rfl
  have HL := Lib.hid hV.ins
  have HZ := Lib.hid R5.out.row
  have R6 := Lib.hid (R5.out.setRow (cs' := (insA R.op R.sz R.cd R.fr R.d R.s ((R.n : Int) - (n : Int)))) rfl)
  have e6 := R6.out.cell; have z6 := R6.out.free
  clear h4 hV
  go_wp2_with (first | (refine wpList_load_mid rfl 29 (.tmp 35) rfl (w.heap.size + 2) 13 rfl (insA R.op R.sz R.cd R.fr R.d R.s ((R.n : Int) - (n : Int))).toList _ HL.out Tryd.underlying29 rfl (by kernel_rfl) ?_) | (refine wpList_store_row rfl 29 (.tmp 4) (.tmp 36) rfl w.heap.size (insA R.op R.sz R.cd R.fr R.d R.s ((R.n : Int) - (n : Int))) rfl rfl 29 _ HZ.out (by kernel_rfl) rfl (ins_one _ _ _ _ _ _ _) ?_))
  refine leaves_cons (f := 32) (args := #[.pointer (some ⟨w.heap.size, 0, none⟩), .pointer (some ⟨w.heap.size + 1, 0, none⟩)]) (by simp) (by simp [go_sem]) ?_
  refine (catchIdle _ _ _).mono ?_
  rintro e u' w'' ⟨rfl, rfl, rfl⟩
  exact ⟨_, (R6.out.setInt 0).out rfl _ rfl rfl, rfl, below_setI (below_setRow (below_setG (below_setI B4.out _) _ _)) _⟩
end Go.Proofs.YtinjpobepcenfaaDoor
namespace Go.Proofs.YtinjpobepcenfaaDoor
open Go.RowKit Go.Sort
set_option linter.unusedVariables false
set_option maxHeartbeats 2000000 in
theorem decLow (s : ByteArray) (n : Int) (w : World) (hs : s.size ≤ 65536) (hn : n < 0) :
    Calls Tryd.prog 12 #[.string s, .int .i64 n] w (DecOut zIns 4 w) := by
  have d1 : decide ((65536 : Int) < s.size) = false := decide_eq_false (by omega)
  have d2 : decide (n < 0) = true := decide_eq_true hn
  have R1 := Lib.hid ((Res.new w).setRow (cs' := zIns) rfl)
  have HZ := Lib.hid (Res.new w).row
  have hc : (((w.alloc (.cells #[.int .i64 0, .int .i64 0, .int .i64 0, .int .i64 0, .int .i64 0, .int .i64 0, .int .i64 0, .int .i64 0, .int .i64 0, .int .i64 0, .int .i64 0, .int .i64 0, .int .i64 0, .int .i64 0, .int .i64 0, .int .i64 0, .int .i64 0, .int .i64 0, .int .i64 0] 29)).alloc (.cells #[.int .i64 0] 3)).setRow w.heap.size zIns).cell? ⟨w.heap.size + 1, 0, none⟩ = some (.int .i64 0) := R1.out.cell
  have hf : (((w.alloc (.cells #[.int .i64 0, .int .i64 0, .int .i64 0, .int .i64 0, .int .i64 0, .int .i64 0, .int .i64 0, .int .i64 0, .int .i64 0, .int .i64 0, .int .i64 0, .int .i64 0, .int .i64 0, .int .i64 0, .int .i64 0, .int .i64 0, .int .i64 0, .int .i64 0, .int .i64 0] 29)).alloc (.cells #[.int .i64 0] 3)).setRow w.heap.size zIns).frozen? ⟨w.heap.size + 1, 0, none⟩ = false := R1.out.free
  have HB := Lib.hid (bel2 w (.cells zIns 29) (.cells #[.int .i64 0] 3))
  go_enter_defers Tryd.func12, Tryd.ntmps12
  go_wp2_with (first | refine wpList_store_row rfl 29 (.tmp 4) (.tmp 11) rfl w.heap.size zIns rfl rfl 29 _ HZ.out (by kernel_rfl) rfl (ins_one _ _ _ _ _ _ _) ?_ | refine wpList_store_row rfl 29 (.tmp 4) (.tmp 12) rfl w.heap.size zIns rfl rfl 29 _ HZ.out (by kernel_rfl) rfl (ins_one _ _ _ _ _ _ _) ?_ | refine wpList_store_row rfl 29 (.tmp 4) (.tmp 13) rfl w.heap.size zIns rfl rfl 29 _ HZ.out (by kernel_rfl) rfl (ins_one _ _ _ _ _ _ _) ?_ | refine wpList_store_row rfl 29 (.tmp 4) (.tmp 14) rfl w.heap.size zIns rfl rfl 29 _ HZ.out (by kernel_rfl) rfl (ins_one _ _ _ _ _ _ _) ?_ | refine wpList_store_row rfl 29 (.tmp 4) (.tmp 15) rfl w.heap.size zIns rfl rfl 29 _ HZ.out (by kernel_rfl) rfl (ins_one _ _ _ _ _ _ _) ?_ | refine wpList_store_row rfl 29 (.tmp 4) (.tmp 16) rfl w.heap.size zIns rfl rfl 29 _ HZ.out (by kernel_rfl) rfl (ins_one _ _ _ _ _ _ _) ?_ | refine wpList_store_row rfl 29 (.tmp 4) (.tmp 17) rfl w.heap.size zIns rfl rfl 29 _ HZ.out (by kernel_rfl) rfl (ins_one _ _ _ _ _ _ _) ?_ | refine wpList_store_row rfl 29 (.tmp 4) (.tmp 18) rfl w.heap.size zIns rfl rfl 29 _ HZ.out (by kernel_rfl) rfl (ins_one _ _ _ _ _ _ _) ?_ | refine wpList_store_row rfl 29 (.tmp 4) (.tmp 19) rfl w.heap.size zIns rfl rfl 29 _ HZ.out (by kernel_rfl) rfl (ins_one _ _ _ _ _ _ _) ?_ | refine wpList_store_row rfl 29 (.tmp 4) (.tmp 20) rfl w.heap.size zIns rfl rfl 29 _ HZ.out (by kernel_rfl) rfl (ins_one _ _ _ _ _ _ _) ?_ | refine wpList_store_row rfl 29 (.tmp 4) (.tmp 21) rfl w.heap.size zIns rfl rfl 29 _ HZ.out (by kernel_rfl) rfl (ins_one _ _ _ _ _ _ _) ?_ | refine wpList_store_row rfl 29 (.tmp 4) (.tmp 22) rfl w.heap.size zIns rfl rfl 29 _ HZ.out (by kernel_rfl) rfl (ins_one _ _ _ _ _ _ _) ?_ | refine wpList_store_row rfl 29 (.tmp 4) (.tmp 23) rfl w.heap.size zIns rfl rfl 29 _ HZ.out (by kernel_rfl) rfl (ins_one _ _ _ _ _ _ _) ?_)
  exact ⟨_, (R1.out.setInt 4).out rfl _ rfl rfl, rfl, below_setI (below_setRow HB.out) _⟩
set_option maxHeartbeats 2000000 in
theorem decHigh (s : ByteArray) (n : Int) (w : World) (hs : s.size ≤ 65536) (h0 : 0 ≤ n) (hn : s.size < n) :
    Calls Tryd.prog 12 #[.string s, .int .i64 n] w (DecOut zIns 4 w) := by
  have d1 : decide ((65536 : Int) < s.size) = false := decide_eq_false (by omega)
  have d2 : decide (n < 0) = false := decide_eq_false (by omega)
  have d3 : decide ((s.size : Int) < n) = true := decide_eq_true hn
  have R1 := Lib.hid ((Res.new w).setRow (cs' := zIns) rfl)
  have HZ := Lib.hid (Res.new w).row
  have hc : (((w.alloc (.cells #[.int .i64 0, .int .i64 0, .int .i64 0, .int .i64 0, .int .i64 0, .int .i64 0, .int .i64 0, .int .i64 0, .int .i64 0, .int .i64 0, .int .i64 0, .int .i64 0, .int .i64 0, .int .i64 0, .int .i64 0, .int .i64 0, .int .i64 0, .int .i64 0, .int .i64 0] 29)).alloc (.cells #[.int .i64 0] 3)).setRow w.heap.size zIns).cell? ⟨w.heap.size + 1, 0, none⟩ = some (.int .i64 0) := R1.out.cell
  have hf : (((w.alloc (.cells #[.int .i64 0, .int .i64 0, .int .i64 0, .int .i64 0, .int .i64 0, .int .i64 0, .int .i64 0, .int .i64 0, .int .i64 0, .int .i64 0, .int .i64 0, .int .i64 0, .int .i64 0, .int .i64 0, .int .i64 0, .int .i64 0, .int .i64 0, .int .i64 0, .int .i64 0] 29)).alloc (.cells #[.int .i64 0] 3)).setRow w.heap.size zIns).frozen? ⟨w.heap.size + 1, 0, none⟩ = false := R1.out.free
  have HB := Lib.hid (bel2 w (.cells zIns 29) (.cells #[.int .i64 0] 3))
  go_enter_defers Tryd.func12, Tryd.ntmps12
  go_wp2_with (first | refine wpList_store_row rfl 29 (.tmp 4) (.tmp 11) rfl w.heap.size zIns rfl rfl 29 _ HZ.out (by kernel_rfl) rfl (ins_one _ _ _ _ _ _ _) ?_ | refine wpList_store_row rfl 29 (.tmp 4) (.tmp 12) rfl w.heap.size zIns rfl rfl 29 _ HZ.out (by kernel_rfl) rfl (ins_one _ _ _ _ _ _ _) ?_ | refine wpList_store_row rfl 29 (.tmp 4) (.tmp 13) rfl w.heap.size zIns rfl rfl 29 _ HZ.out (by kernel_rfl) rfl (ins_one _ _ _ _ _ _ _) ?_ | refine wpList_store_row rfl 29 (.tmp 4) (.tmp 14) rfl w.heap.size zIns rfl rfl 29 _ HZ.out (by kernel_rfl) rfl (ins_one _ _ _ _ _ _ _) ?_ | refine wpList_store_row rfl 29 (.tmp 4) (.tmp 15) rfl w.heap.size zIns rfl rfl 29 _ HZ.out (by kernel_rfl) rfl (ins_one _ _ _ _ _ _ _) ?_ | refine wpList_store_row rfl 29 (.tmp 4) (.tmp 16) rfl w.heap.size zIns rfl rfl 29 _ HZ.out (by kernel_rfl) rfl (ins_one _ _ _ _ _ _ _) ?_ | refine wpList_store_row rfl 29 (.tmp 4) (.tmp 17) rfl w.heap.size zIns rfl rfl 29 _ HZ.out (by kernel_rfl) rfl (ins_one _ _ _ _ _ _ _) ?_ | refine wpList_store_row rfl 29 (.tmp 4) (.tmp 18) rfl w.heap.size zIns rfl rfl 29 _ HZ.out (by kernel_rfl) rfl (ins_one _ _ _ _ _ _ _) ?_ | refine wpList_store_row rfl 29 (.tmp 4) (.tmp 19) rfl w.heap.size zIns rfl rfl 29 _ HZ.out (by kernel_rfl) rfl (ins_one _ _ _ _ _ _ _) ?_ | refine wpList_store_row rfl 29 (.tmp 4) (.tmp 20) rfl w.heap.size zIns rfl rfl 29 _ HZ.out (by kernel_rfl) rfl (ins_one _ _ _ _ _ _ _) ?_ | refine wpList_store_row rfl 29 (.tmp 4) (.tmp 21) rfl w.heap.size zIns rfl rfl 29 _ HZ.out (by kernel_rfl) rfl (ins_one _ _ _ _ _ _ _) ?_ | refine wpList_store_row rfl 29 (.tmp 4) (.tmp 22) rfl w.heap.size zIns rfl rfl 29 _ HZ.out (by kernel_rfl) rfl (ins_one _ _ _ _ _ _ _) ?_ | refine wpList_store_row rfl 29 (.tmp 4) (.tmp 23) rfl w.heap.size zIns rfl rfl 29 _ HZ.out (by kernel_rfl) rfl (ins_one _ _ _ _ _ _ _) ?_)
  exact ⟨_, (R1.out.setInt 4).out rfl _ rfl rfl, rfl, below_setI (below_setRow HB.out) _⟩
end Go.Proofs.YtinjpobepcenfaaDoor
