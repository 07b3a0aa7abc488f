/-
  What operands of impl's reader does, whole: the operands of the form, or a panic at the text's end; conditions: those in each head.
-/
import Derived.Test.YtinjpobepcenfaaDoorWalkRd7
import Derived.Test.YtinjpobepcenfaaDoorWalkRd8
namespace Go.Proofs.YtinjpobepcenfaaDoor
open Go.RowKit Go.Sort
set_option linter.unusedVariables false
theorem operD_1 (s : ByteArray) (n : Nat) (op sz fr : Int) (md rg rm rex b : Nat) : operD s n 1 op sz fr md rg rm rex b = (thenD (placeD s n md rm rex sz) fun p n => some ((p, bReg (rg + extB rex 2) sz rex), n)) := by simp [operD]
theorem operD_2 (s : ByteArray) (n : Nat) (op sz fr : Int) (md rg rm rex b : Nat) : operD s n 2 op sz fr md rg rm rex b = (thenD (placeD s n md rm rex sz) fun p n => some ((bReg (rg + extB rex 2) sz rex, p), n)) := by simp [operD]
theorem operD_3 (s : ByteArray) (n : Nat) (op sz fr : Int) (md rg rm rex b : Nat) : operD s n 3 op sz fr md rg rm rex b = (thenD (numD s n (minK sz)) fun x n => some ((regOpd 0, x), n)) := by simp [operD]
theorem operD_4 (s : ByteArray) (n : Nat) (op sz fr : Int) (md rg rm rex b : Nat) : operD s n 4 op sz fr md rg rm rex b = (thenD (placeD s n md rm rex sz) fun p n => thenD (numD s n 1) fun x n => some ((p, x), n)) := by simp [operD]
theorem operD_5 (s : ByteArray) (n : Nat) (op sz fr : Int) (md rg rm rex b : Nat) : operD s n 5 op sz fr md rg rm rex b = (thenD (placeD s n md rm rex sz) fun p n => thenD (numD s n (minK sz)) fun x n => some ((p, x), n)) := by simp [operD]
theorem operD_6 (s : ByteArray) (n : Nat) (op sz fr : Int) (md rg rm rex b : Nat) : operD s n 6 op sz fr md rg rm rex b = (thenD (placeD s n md rm rex sz) fun p n => if srcOp op then some ((noOpd, p), n) else if op = 10 then thenD (numD s n (minK sz)) fun x n => some ((p, x), n) else some ((p, noOpd), n)) := by simp [operD]
theorem operD_7 (s : ByteArray) (n : Nat) (op sz fr : Int) (md rg rm rex b : Nat) : operD s n 7 op sz fr md rg rm rex b = (if op = 29 then some ((noOpd, regOpd ((b % 8 + extB rex 0 : Nat) : Int)), n) else some ((regOpd ((b % 8 + extB rex 0 : Nat) : Int), noOpd), n)) := by simp [operD]
theorem operD_8 (s : ByteArray) (n : Nat) (op sz fr : Int) (md rg rm rex b : Nat) : operD s n 8 op sz fr md rg rm rex b = (thenD (numD s n sz.toNat) fun x n => some ((bReg (b % 8 + extB rex 0) sz rex, x), n)) := by simp [operD]
theorem operD_9 (s : ByteArray) (n : Nat) (op sz fr : Int) (md rg rm rex b : Nat) : operD s n 9 op sz fr md rg rm rex b = (thenD (numD s n 1) fun x n => some ((noOpd, x), n)) := by simp [operD]
theorem operD_10 (s : ByteArray) (n : Nat) (op sz fr : Int) (md rg rm rex b : Nat) : operD s n 10 op sz fr md rg rm rex b = (thenD (numD s n 4) fun x n => some ((noOpd, x), n)) := by simp [operD]
theorem operD_11 (s : ByteArray) (n : Nat) (op sz fr : Int) (md rg rm rex b : Nat) : operD s n 11 op sz fr md rg rm rex b = (thenD (placeD s n md rm rex sz) fun p n => thenD (numU s n) fun x n => some ((p, x), n)) := by simp [operD]
theorem operD_12 (s : ByteArray) (n : Nat) (op sz fr : Int) (md rg rm rex b : Nat) : operD s n 12 op sz fr md rg rm rex b = (thenD (placeD s n md rm rex sz) fun p n => some ((p, immOpd 1), n)) := by simp [operD]
theorem operD_13 (s : ByteArray) (n : Nat) (op sz fr : Int) (md rg rm rex b : Nat) : operD s n 13 op sz fr md rg rm rex b = (thenD (placeD s n md rm rex sz) fun p n => some ((p, regOpd 1), n)) := by simp [operD]
theorem operD_14 (s : ByteArray) (n : Nat) (op sz fr : Int) (md rg rm rex b : Nat) : operD s n 14 op sz fr md rg rm rex b = (some ((noOpd, noOpd), n)) := by simp [operD]
theorem operD_15 (s : ByteArray) (n : Nat) (op sz fr : Int) (md rg rm rex b : Nat) : operD s n 15 op sz fr md rg rm rex b = (if op = 44 then thenD (numU s n) fun x n => some ((noOpd, x), n) else thenD (numD s n 1) fun x n => some ((noOpd, x), n)) := by simp [operD]
theorem operD_16 (s : ByteArray) (n : Nat) (op sz fr : Int) (md rg rm rex b : Nat) : operD s n 16 op sz fr md rg rm rex b = (thenD (numD s n 4) fun x n => some ((noOpd, x), n)) := by simp [operD]
theorem operD_17 (s : ByteArray) (n : Nat) (op sz fr : Int) (md rg rm rex b : Nat) : operD s n 17 op sz fr md rg rm rex b = (thenD (placeD s n md rm rex fr) fun p n => some ((bReg (rg + extB rex 2) sz rex, p), n)) := by simp [operD]
theorem numD_some {s : ByteArray} {n k : Nat} {x : Opd} {n' : Nat} (h : numD s n k = some (x, n')) : n + k ≤ s.size ∧ x = immOpd (sgV s n k) ∧ n' = n + k := by
  unfold numD at h
  split at h
  · rename_i hle; simp only [Option.some.injEq, Prod.mk.injEq] at h; exact ⟨hle, h.1.symm, h.2.symm⟩
  · cases h
theorem numD_none {s : ByteArray} {n k : Nat} (h : numD s n k = none) : s.size < n + k := by
  unfold numD at h
  split at h
  · cases h
  · omega
theorem numU_some {s : ByteArray} {n : Nat} {x : Opd} {n' : Nat} (h : numU s n = some (x, n')) : n + 1 ≤ s.size ∧ x = immOpd (nb s n) ∧ n' = n + 1 := by
  unfold numU at h
  split at h
  · rename_i hle; simp only [Option.some.injEq, Prod.mk.injEq] at h; exact ⟨hle, h.1.symm, h.2.symm⟩
  · cases h
theorem numU_none {s : ByteArray} {n : Nat} (h : numU s n = none) : s.size < n + 1 := by
  unfold numU at h
  split at h
  · cases h
  · omega
/-- what operands leaves -/
def OpOut (W0 w : World) (g : Nat) (r : Option Rd) (e : Ending) (w' : World) : Prop := match r with | some R' => e = .returned (.tuple #[]) ∧ Wr W0 w w' g R' | none => e = endP ∧ Ch w w' g
def stD (R : Rd) : Option Rd := match operD R.t R.n R.z.f R.op R.sz R.fr R.md R.rg R.rm R.rex R.ob with | some ((d, s), n) => some { R with n := n, d := d, s := s } | none => none
/-- what the tables make sure of: which operation has which form -/
structure Fit (R : Rd) : Prop where
  f : R.z.f = 1 ∨ R.z.f = 2 ∨ R.z.f = 3 ∨ R.z.f = 4 ∨ R.z.f = 5 ∨ R.z.f = 6 ∨ R.z.f = 7 ∨ R.z.f = 8 ∨ R.z.f = 9 ∨ R.z.f = 10 ∨ R.z.f = 11 ∨ R.z.f = 12 ∨ R.z.f = 13 ∨ R.z.f = 14 ∨ R.z.f = 15 ∨ R.z.f = 16 ∨ R.z.f = 17
  no44 : R.z.f = 4 ∨ R.z.f = 9 → R.op ≠ 44
  pp : R.z.f = 7 → R.sz = 8 ∧ (R.op = 29 ∨ (¬ srcOp R.op ∧ R.op ≠ 10))
  sz : R.z.f = 3 ∨ R.z.f = 5 ∨ R.z.f = 8 ∨ (R.z.f = 6 ∧ R.op = 10) → okSize R.sz
  x : R.rex < 80
  md : R.md < 4
  rg : R.rg < 8
  rm : R.rm < 8
  ob : R.ob < 256
  d : R.d = noOpd
  s : R.s = noOpd
theorem bReg8 (r rex : Nat) : bReg r 8 rex = regOpd r := bReg_no (fun h => by cases h.1)
theorem opsF1 (g : Nat) (R : Rd) (W0 w : World) (aE aR : Addr) (hsn : Sent W0 aE aR) (h : At W0 w g R) (F : Fit R) (hf : R.z.f = 1) : Calls Tryd.prog 60 #[.pointer (some ⟨g, 0, none⟩)] w (OpOut W0 w g (stD R)) := by
  unfold stD
  rw [hf, operD_1]
  cases hp : placeD R.t R.n R.md R.rm R.rex R.sz with
  | none =>
    have CN := fun W hW => placeNo g R.sz R W0 W aE aR hsn hW F.x F.md F.rm hp
    exact op1n g R W0 w h hf (Lib.hid fun W hW => (CN W hW).mono fun _ _ h => .inl h) (bReg (R.rg + extB R.rex 2) R.sz R.rex) (Lib.hid (fun W hW => regC g R.sz R W0 W hW F.x (by show R.rg < 256; have := F.rg; omega)))
  | some q =>
    obtain ⟨x, n1⟩ := q
    have CP := fun W hW => placeYes g R.sz R W0 W hW F.x F.md F.rm hp
    exact op1 g R W0 w h hf x n1 (Lib.hid CP) _ (Lib.hid (fun W hW => regC g R.sz { R with n := n1 } W0 W hW F.x (by show R.rg < 256; have := F.rg; omega)))
theorem opsF2 (g : Nat) (R : Rd) (W0 w : World) (aE aR : Addr) (hsn : Sent W0 aE aR) (h : At W0 w g R) (F : Fit R) (hf : R.z.f = 2) : Calls Tryd.prog 60 #[.pointer (some ⟨g, 0, none⟩)] w (OpOut W0 w g (stD R)) := by
  unfold stD
  rw [hf, operD_2]
  cases hp : placeD R.t R.n R.md R.rm R.rex R.sz with
  | none =>
    have CN := fun W hW => placeNo g R.sz R W0 W aE aR hsn hW F.x F.md F.rm hp
    exact op2n g R W0 w h hf (Lib.hid fun W hW => (CN W hW).mono fun _ _ h => .inl h) (bReg (R.rg + extB R.rex 2) R.sz R.rex) (Lib.hid (fun W hW => regC g R.sz R W0 W hW F.x (by show R.rg < 256; have := F.rg; omega)))
  | some q =>
    obtain ⟨x, n1⟩ := q
    have CP := fun W hW => placeYes g R.sz R W0 W hW F.x F.md F.rm hp
    exact op2 g R W0 w h hf x n1 (Lib.hid CP) _ (Lib.hid (fun W hW => regC g R.sz R W0 W hW F.x (by show R.rg < 256; have := F.rg; omega)))
theorem opsF3 (g : Nat) (R : Rd) (W0 w : World) (aE aR : Addr) (hsn : Sent W0 aE aR) (h : At W0 w g R) (F : Fit R) (hf : R.z.f = 3) : Calls Tryd.prog 60 #[.pointer (some ⟨g, 0, none⟩)] w (OpOut W0 w g (stD R)) := by
  unfold stD
  rw [hf, operD_3]
  obtain ⟨k, hs, hk2, hok⟩ := minK_of (F.sz (.inl hf))
  rw [hk2]
  cases hq : numD R.t R.n k with
  | none =>
    exact op3n g R W0 w h hf (Lib.hid fun W hW => numNo g k R W0 W aE aR hsn hW hs hok (numD_none hq))
  | some q =>
    obtain ⟨y, n2⟩ := q
    obtain ⟨hk, rfl, rfl⟩ := numD_some hq
    exact op3 g R W0 w h hf _ _ (Lib.hid fun W hW => numYes g k R W0 W hW hs hok hk)
theorem opsF4 (g : Nat) (R : Rd) (W0 w : World) (aE aR : Addr) (hsn : Sent W0 aE aR) (h : At W0 w g R) (F : Fit R) (hf : R.z.f = 4) : Calls Tryd.prog 60 #[.pointer (some ⟨g, 0, none⟩)] w (OpOut W0 w g (stD R)) := by
  unfold stD
  rw [hf, operD_4]
  cases hp : placeD R.t R.n R.md R.rm R.rex R.sz with
  | none =>
    have CN := fun W hW => placeNo g R.sz R W0 W aE aR hsn hW F.x F.md F.rm hp
    exact op4n g R W0 w h hf (Lib.hid CN)
  | some q =>
    obtain ⟨x, n1⟩ := q
    have CP := fun W hW => placeYes g R.sz R W0 W hW F.x F.md F.rm hp
    show Calls _ _ _ _ (OpOut W0 w g (match thenD (numD R.t n1 1) _ with | some ((d, s), n) => some { R with n := n, d := d, s := s } | none => none))
    cases hq : numD R.t n1 1 with
    | none =>
      exact op4m g R W0 w h hf x n1 (Lib.hid CP) (Lib.hid fun W hW => byteNo_n g { R with n := n1 } W0 W aE aR hsn hW (F.no44 (.inl hf)) (by show R.z.f ≠ 11; omega) (numD_none hq))
    | some q =>
      obtain ⟨y, n2⟩ := q
      obtain ⟨hk, rfl, rfl⟩ := numD_some hq
      exact op4 g R W0 w h hf x n1 (Lib.hid CP) _ _ (Lib.hid fun W hW => byteN_n g { R with n := n1 } W0 W hW (F.no44 (.inl hf)) (by show R.z.f ≠ 11; omega) hk)
theorem opsF5 (g : Nat) (R : Rd) (W0 w : World) (aE aR : Addr) (hsn : Sent W0 aE aR) (h : At W0 w g R) (F : Fit R) (hf : R.z.f = 5) : Calls Tryd.prog 60 #[.pointer (some ⟨g, 0, none⟩)] w (OpOut W0 w g (stD R)) := by
  unfold stD
  rw [hf, operD_5]
  obtain ⟨k, hs, hk2, hok⟩ := minK_of (F.sz (.inr (.inl hf)))
  rw [hk2]
  cases hp : placeD R.t R.n R.md R.rm R.rex R.sz with
  | none =>
    have CN := fun W hW => placeNo g R.sz R W0 W aE aR hsn hW F.x F.md F.rm hp
    exact op5n g R W0 w h hf (Lib.hid CN)
  | some q =>
    obtain ⟨x, n1⟩ := q
    have CP := fun W hW => placeYes g R.sz R W0 W hW F.x F.md F.rm hp
    show Calls _ _ _ _ (OpOut W0 w g (match thenD (numD R.t n1 k) _ with | some ((d, s), n) => some { R with n := n, d := d, s := s } | none => none))
    cases hq : numD R.t n1 k with
    | none =>
      exact op5m g R W0 w h hf x n1 (Lib.hid CP) (Lib.hid fun W hW => numNo g k { R with n := n1 } W0 W aE aR hsn hW hs hok (numD_none hq))
    | some q =>
      obtain ⟨y, n2⟩ := q
      obtain ⟨hk, rfl, rfl⟩ := numD_some hq
      exact op5 g R W0 w h hf x n1 (Lib.hid CP) _ _ (Lib.hid fun W hW => numYes g k { R with n := n1 } W0 W hW hs hok hk)
theorem opsF6 (g : Nat) (R : Rd) (W0 w : World) (aE aR : Addr) (hsn : Sent W0 aE aR) (h : At W0 w g R) (F : Fit R) (hf : R.z.f = 6) : Calls Tryd.prog 60 #[.pointer (some ⟨g, 0, none⟩)] w (OpOut W0 w g (stD R)) := by
  unfold stD
  rw [hf, operD_6]
  cases hp : placeD R.t R.n R.md R.rm R.rex R.sz with
  | none =>
    have CN := fun W hW => placeNo g R.sz R W0 W aE aR hsn hW F.x F.md F.rm hp
    by_cases ho : srcOp R.op
    · exact op6n g R W0 w h hf (Lib.hid (s6srcn g R W0 w h hf ho (Lib.hid CN)))
    · by_cases ht : R.op = 10
      · exact op6n g R W0 w h hf (Lib.hid (s6testn g R W0 w h hf ht (Lib.hid CN)))
      · exact op6n g R W0 w h hf (Lib.hid (s6dstn g R W0 w h hf ho ht (Lib.hid CN)))
  | some q =>
    obtain ⟨x, n1⟩ := q
    have CP := fun W hW => placeYes g R.sz R W0 W hW F.x F.md F.rm hp
    show Calls _ _ _ _ (OpOut W0 w g (match (if srcOp R.op then some ((noOpd, x), n1) else if R.op = 10 then thenD (numD R.t n1 (minK R.sz)) fun y n => some ((x, y), n) else some ((x, noOpd), n1)) with | some ((d, s), n) => some { R with n := n, d := d, s := s } | none => none))
    by_cases ho : srcOp R.op
    · rw [if_pos ho]
      simp only [← F.d]
      exact op6 g R W0 w h hf _ (Lib.hid (s6src g R W0 w h hf ho x n1 (Lib.hid CP)))
    · rw [if_neg ho]
      by_cases ht : R.op = 10
      · rw [if_pos ht]
        obtain ⟨k, hs, hk2, hok⟩ := minK_of (F.sz (.inr (.inr (.inr ⟨hf, ht⟩))))
        rw [hk2]
        cases hq : numD R.t n1 k with
        | none => exact op6n g R W0 w h hf (Lib.hid (s6testm g R W0 w h hf ht x n1 (Lib.hid CP) (Lib.hid fun W hW => numNo g k { R with n := n1 } W0 W aE aR hsn hW hs hok (numD_none hq))))
        | some q =>
          obtain ⟨y, n2⟩ := q
          obtain ⟨hk, rfl, rfl⟩ := numD_some hq
          exact op6 g R W0 w h hf _ (Lib.hid (s6test g R W0 w h hf ht x n1 (Lib.hid CP) _ _ (Lib.hid fun W hW => numYes g k { R with n := n1 } W0 W hW hs hok hk)))
      · rw [if_neg ht]
        simp only [← F.s]
        exact op6 g R W0 w h hf _ (Lib.hid (s6dst g R W0 w h hf ho ht x n1 (Lib.hid CP)))
theorem opsF7 (g : Nat) (R : Rd) (W0 w : World) (aE aR : Addr) (hsn : Sent W0 aE aR) (h : At W0 w g R) (F : Fit R) (hf : R.z.f = 7) : Calls Tryd.prog 60 #[.pointer (some ⟨g, 0, none⟩)] w (OpOut W0 w g (stD R)) := by
  unfold stD
  rw [hf, operD_7]
  obtain ⟨h8, ho⟩ := F.pp hf
  have CO : ∀ W, At W0 W g R → _ := fun W hW => opRegC g R.sz R W0 W hW F.x F.ob
  have eb : bReg (R.ob % 8 + extB R.rex 0) R.sz R.rex = regOpd ((R.ob % 8 + extB R.rex 0 : Nat) : Int) := by rw [h8]; exact bReg8 _ _
  rw [eb] at CO
  by_cases h29 : R.op = 29
  · rw [if_pos h29]
    simp only [← F.d]
    exact op7 g R W0 w h hf _ (Lib.hid (s7push g R W0 w h hf h29 _ (Lib.hid CO)))
  · rw [if_neg h29]
    obtain ⟨h1, h2⟩ := ho.resolve_left h29
    simp only [← F.s]
    exact op7 g R W0 w h hf _ (Lib.hid (s7dst g R W0 w h hf h1 h2 _ (Lib.hid CO)))
theorem opsF8 (g : Nat) (R : Rd) (W0 w : World) (aE aR : Addr) (hsn : Sent W0 aE aR) (h : At W0 w g R) (F : Fit R) (hf : R.z.f = 8) : Calls Tryd.prog 60 #[.pointer (some ⟨g, 0, none⟩)] w (OpOut W0 w g (stD R)) := by
  unfold stD
  rw [hf, operD_8]
  obtain ⟨k, hk2, hok⟩ : ∃ k : Nat, R.sz = (k : Int) ∧ okSize (k : Int) := natSize (F.sz (.inr (.inr (.inl hf))))
  rw [show R.sz.toNat = k by rw [hk2]; rfl]
  cases hq : numD R.t R.n k with
  | none =>
    exact op8n g R W0 w h hf (Lib.hid fun W hW => by have := (takeSNo g k R W0 W aE aR hsn hW hok (numD_none hq)); rw [← hk2] at this; exact this.mono fun _ _ h => .inl h) (bReg (R.ob % 8 + extB R.rex 0) R.sz R.rex) (Lib.hid (fun W hW => opRegC g R.sz R W0 W hW F.x F.ob))
  | some q =>
    obtain ⟨y, n2⟩ := q
    obtain ⟨hk, rfl, rfl⟩ := numD_some hq
    exact op8 g R W0 w h hf _ _ (Lib.hid fun W hW => by have := takeSYes g k R W0 W hW hok hk; rw [← hk2] at this; exact this) _ (Lib.hid (fun W hW => opRegC g R.sz R W0 W hW F.x F.ob))
theorem opsF9 (g : Nat) (R : Rd) (W0 w : World) (aE aR : Addr) (hsn : Sent W0 aE aR) (h : At W0 w g R) (F : Fit R) (hf : R.z.f = 9) : Calls Tryd.prog 60 #[.pointer (some ⟨g, 0, none⟩)] w (OpOut W0 w g (stD R)) := by
  unfold stD
  rw [hf, operD_9]
  cases hq : numD R.t R.n 1 with
  | none =>
    exact op9n g R W0 w h hf (Lib.hid fun W hW => byteNo_n g R W0 W aE aR hsn hW (F.no44 (.inr hf)) (by show R.z.f ≠ 11; omega) (numD_none hq))
  | some q =>
    obtain ⟨y, n2⟩ := q
    obtain ⟨hk, rfl, rfl⟩ := numD_some hq
    simp only [thenD, ← F.d]
    exact op9 g R W0 w h hf _ _ (Lib.hid fun W hW => byteN_n g R W0 W hW (F.no44 (.inr hf)) (by show R.z.f ≠ 11; omega) hk)
theorem opsF10 (g : Nat) (R : Rd) (W0 w : World) (aE aR : Addr) (hsn : Sent W0 aE aR) (h : At W0 w g R) (F : Fit R) (hf : R.z.f = 10) : Calls Tryd.prog 60 #[.pointer (some ⟨g, 0, none⟩)] w (OpOut W0 w g (stD R)) := by
  unfold stD
  rw [hf, operD_10]
  cases hq : numD R.t R.n 4 with
  | none =>
    exact op10n g R W0 w h hf (Lib.hid fun W hW => takeSNo g 4 R W0 W aE aR hsn hW (.inr (.inr (.inl rfl))) (numD_none hq))
  | some q =>
    obtain ⟨y, n2⟩ := q
    obtain ⟨hk, rfl, rfl⟩ := numD_some hq
    simp only [thenD, ← F.d]
    exact op10 g R W0 w h hf _ _ (Lib.hid fun W hW => takeSYes g 4 R W0 W hW (.inr (.inr (.inl rfl))) hk)
theorem opsF11 (g : Nat) (R : Rd) (W0 w : World) (aE aR : Addr) (hsn : Sent W0 aE aR) (h : At W0 w g R) (F : Fit R) (hf : R.z.f = 11) : Calls Tryd.prog 60 #[.pointer (some ⟨g, 0, none⟩)] w (OpOut W0 w g (stD R)) := by
  unfold stD
  rw [hf, operD_11]
  cases hp : placeD R.t R.n R.md R.rm R.rex R.sz with
  | none =>
    have CN := fun W hW => placeNo g R.sz R W0 W aE aR hsn hW F.x F.md F.rm hp
    exact op11n g R W0 w h hf (Lib.hid CN)
  | some q =>
    obtain ⟨x, n1⟩ := q
    have CP := fun W hW => placeYes g R.sz R W0 W hW F.x F.md F.rm hp
    show Calls _ _ _ _ (OpOut W0 w g (match thenD (numU R.t n1) _ with | some ((d, s), n) => some { R with n := n, d := d, s := s } | none => none))
    cases hq : numU R.t n1 with
    | none =>
      exact op11m g R W0 w h hf x n1 (Lib.hid CP) (Lib.hid fun W hW => byteNo_f g { R with n := n1 } W0 W aE aR hsn hW hf (numU_none hq))
    | some q =>
      obtain ⟨y, n2⟩ := q
      obtain ⟨hk, rfl, rfl⟩ := numU_some hq
      exact op11 g R W0 w h hf x n1 (Lib.hid CP) _ _ (Lib.hid fun W hW => byteN_f g { R with n := n1 } W0 W hW hf hk)
theorem opsF12 (g : Nat) (R : Rd) (W0 w : World) (aE aR : Addr) (hsn : Sent W0 aE aR) (h : At W0 w g R) (F : Fit R) (hf : R.z.f = 12) : Calls Tryd.prog 60 #[.pointer (some ⟨g, 0, none⟩)] w (OpOut W0 w g (stD R)) := by
  unfold stD
  rw [hf, operD_12]
  cases hp : placeD R.t R.n R.md R.rm R.rex R.sz with
  | none =>
    have CN := fun W hW => placeNo g R.sz R W0 W aE aR hsn hW F.x F.md F.rm hp
    exact op12n g R W0 w h hf (Lib.hid CN)
  | some q =>
    obtain ⟨x, n1⟩ := q
    have CP := fun W hW => placeYes g R.sz R W0 W hW F.x F.md F.rm hp
    exact op12 g R W0 w h hf x n1 (Lib.hid CP)
theorem opsF13 (g : Nat) (R : Rd) (W0 w : World) (aE aR : Addr) (hsn : Sent W0 aE aR) (h : At W0 w g R) (F : Fit R) (hf : R.z.f = 13) : Calls Tryd.prog 60 #[.pointer (some ⟨g, 0, none⟩)] w (OpOut W0 w g (stD R)) := by
  unfold stD
  rw [hf, operD_13]
  cases hp : placeD R.t R.n R.md R.rm R.rex R.sz with
  | none =>
    have CN := fun W hW => placeNo g R.sz R W0 W aE aR hsn hW F.x F.md F.rm hp
    exact op13n g R W0 w h hf (Lib.hid CN)
  | some q =>
    obtain ⟨x, n1⟩ := q
    have CP := fun W hW => placeYes g R.sz R W0 W hW F.x F.md F.rm hp
    exact op13 g R W0 w h hf x n1 (Lib.hid CP)
theorem opsF14 (g : Nat) (R : Rd) (W0 w : World) (aE aR : Addr) (hsn : Sent W0 aE aR) (h : At W0 w g R) (F : Fit R) (hf : R.z.f = 14) : Calls Tryd.prog 60 #[.pointer (some ⟨g, 0, none⟩)] w (OpOut W0 w g (stD R)) := by
  unfold stD
  rw [hf, operD_14]
  show Calls _ _ _ _ (OpOut W0 w g (some { R with n := R.n, d := noOpd, s := noOpd }))
  rw [show ({ R with n := R.n, d := noOpd, s := noOpd } : Rd) = R by have h1 := F.d; have h2 := F.s; cases R; simp_all]
  exact (op14 g R W0 w h hf).mono fun e w' ⟨he, hw⟩ => ⟨he, by rw [hw]; exact ⟨h, Ch.refl _ _⟩⟩
theorem opsF15 (g : Nat) (R : Rd) (W0 w : World) (aE aR : Addr) (hsn : Sent W0 aE aR) (h : At W0 w g R) (F : Fit R) (hf : R.z.f = 15) : Calls Tryd.prog 60 #[.pointer (some ⟨g, 0, none⟩)] w (OpOut W0 w g (stD R)) := by
  unfold stD
  rw [hf, operD_15]
  by_cases h44 : R.op = 44
  · rw [if_pos h44]
    cases hq : numU R.t R.n with
    | none =>
      exact op15n g R W0 w h hf (Lib.hid fun W hW => byteNo_o g R W0 W aE aR hsn hW h44 (by show R.z.f ≠ 11; omega) (numU_none hq))
    | some q =>
      obtain ⟨y, n2⟩ := q
      obtain ⟨hk, rfl, rfl⟩ := numU_some hq
      simp only [thenD, ← F.d]
      exact op15 g R W0 w h hf _ _ (Lib.hid fun W hW => byteN_o g R W0 W hW h44 (by show R.z.f ≠ 11; omega) hk)
  · rw [if_neg h44]
    cases hq : numD R.t R.n 1 with
    | none =>
      exact op15n g R W0 w h hf (Lib.hid fun W hW => byteNo_n g R W0 W aE aR hsn hW h44 (by show R.z.f ≠ 11; omega) (numD_none hq))
    | some q =>
      obtain ⟨y, n2⟩ := q
      obtain ⟨hk, rfl, rfl⟩ := numD_some hq
      simp only [thenD, ← F.d]
      exact op15 g R W0 w h hf _ _ (Lib.hid fun W hW => byteN_n g R W0 W hW h44 (by show R.z.f ≠ 11; omega) hk)
theorem opsF16 (g : Nat) (R : Rd) (W0 w : World) (aE aR : Addr) (hsn : Sent W0 aE aR) (h : At W0 w g R) (F : Fit R) (hf : R.z.f = 16) : Calls Tryd.prog 60 #[.pointer (some ⟨g, 0, none⟩)] w (OpOut W0 w g (stD R)) := by
  unfold stD
  rw [hf, operD_16]
  cases hq : numD R.t R.n 4 with
  | none =>
    exact op16n g R W0 w h hf (Lib.hid fun W hW => takeSNo g 4 R W0 W aE aR hsn hW (.inr (.inr (.inl rfl))) (numD_none hq))
  | some q =>
    obtain ⟨y, n2⟩ := q
    obtain ⟨hk, rfl, rfl⟩ := numD_some hq
    simp only [thenD, ← F.d]
    exact op16 g R W0 w h hf _ _ (Lib.hid fun W hW => takeSYes g 4 R W0 W hW (.inr (.inr (.inl rfl))) hk)
theorem opsF17 (g : Nat) (R : Rd) (W0 w : World) (aE aR : Addr) (hsn : Sent W0 aE aR) (h : At W0 w g R) (F : Fit R) (hf : R.z.f = 17) : Calls Tryd.prog 60 #[.pointer (some ⟨g, 0, none⟩)] w (OpOut W0 w g (stD R)) := by
  unfold stD
  rw [hf, operD_17]
  cases hp : placeD R.t R.n R.md R.rm R.rex R.fr with
  | none =>
    have CN := fun W hW => placeNo g R.fr R W0 W aE aR hsn hW F.x F.md F.rm hp
    exact op17n g R W0 w h hf (Lib.hid fun W hW => (CN W hW).mono fun _ _ h => .inl h) (bReg (R.rg + extB R.rex 2) R.sz R.rex) (Lib.hid (fun W hW => regC g R.sz R W0 W hW F.x (by show R.rg < 256; have := F.rg; omega)))
  | some q =>
    obtain ⟨x, n1⟩ := q
    have CP := fun W hW => placeYes g R.fr R W0 W hW F.x F.md F.rm hp
    exact op17 g R W0 w h hf x n1 (Lib.hid CP) _ (Lib.hid (fun W hW => regC g R.sz R W0 W hW F.x (by show R.rg < 256; have := F.rg; omega)))
theorem opsC (g : Nat) (R : Rd) (W0 w : World) (aE aR : Addr) (hsn : Sent W0 aE aR) (h : At W0 w g R) (F : Fit R) : Calls Tryd.prog 60 #[.pointer (some ⟨g, 0, none⟩)] w (OpOut W0 w g (stD R)) := by
  rcases F.f with hf | hf | hf | hf | hf | hf | hf | hf | hf | hf | hf | hf | hf | hf | hf | hf | hf
  · exact opsF1 g R W0 w aE aR hsn h F hf
  · exact opsF2 g R W0 w aE aR hsn h F hf
  · exact opsF3 g R W0 w aE aR hsn h F hf
  · exact opsF4 g R W0 w aE aR hsn h F hf
  · exact opsF5 g R W0 w aE aR hsn h F hf
  · exact opsF6 g R W0 w aE aR hsn h F hf
  · exact opsF7 g R W0 w aE aR hsn h F hf
  · exact opsF8 g R W0 w aE aR hsn h F hf
  · exact opsF9 g R W0 w aE aR hsn h F hf
  · exact opsF10 g R W0 w aE aR hsn h F hf
  · exact opsF11 g R W0 w aE aR hsn h F hf
  · exact opsF12 g R W0 w aE aR hsn h F hf
  · exact opsF13 g R W0 w aE aR hsn h F hf
  · exact opsF14 g R W0 w aE aR hsn h F hf
  · exact opsF15 g R W0 w aE aR hsn h F hf
  · exact opsF16 g R W0 w aE aR hsn h F hf
  · exact opsF17 g R W0 w aE aR hsn h F hf
end Go.Proofs.YtinjpobepcenfaaDoor
