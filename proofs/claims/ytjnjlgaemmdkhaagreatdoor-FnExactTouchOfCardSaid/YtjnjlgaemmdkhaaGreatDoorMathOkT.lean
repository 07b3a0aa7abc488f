/-
  What l05OK of spec answers is what InstrOK of impl answers; conditions: those in each head.
-/
import Derived.Test.YtjnjlgaemmdkhaaGreatDoorWalkOkI3
import Derived.Test.YtjnjlgaemmdkhaaGreatDoorWalkOkT4
namespace Go.Proofs.YtjnjlgaemmdkhaaGreatDoor
open Go.RowKit Go.Sort
set_option linter.unusedVariables false
set_option linter.unusedSimpArgs false
def lisL : List (List (UInt8 × UInt8)) := [[(114, 114), (109, 114), (114, 109), (114, 105), (109, 105)], [(114, 114), (109, 114), (114, 109), (114, 105), (109, 105)], [(114, 114), (109, 114), (114, 109), (114, 105), (109, 105)], [(114, 114), (109, 114), (114, 109), (114, 105), (109, 105)], [(114, 114), (109, 114), (114, 109), (114, 105), (109, 105)], [(114, 114), (109, 114), (114, 109), (114, 105), (109, 105)], [(114, 114), (109, 114), (114, 109), (114, 105), (109, 105)], [(114, 114), (109, 114), (114, 109), (114, 105), (109, 105)], [(114, 114), (109, 114), (114, 109), (114, 105), (109, 105)], [(114, 114), (109, 114), (114, 105), (109, 105)], [(114, 48), (109, 48)], [(114, 48), (109, 48)], [(48, 114), (48, 109)], [(48, 114), (48, 109)], [(48, 114), (48, 109)], [(48, 114), (48, 109)], [(114, 114), (114, 109)], [(114, 48), (109, 48)], [(114, 48), (109, 48)], [(114, 114), (109, 114), (114, 105), (109, 105)], [(114, 114), (109, 114), (114, 105), (109, 105)], [(114, 114), (109, 114), (114, 105), (109, 105)], [(114, 114), (109, 114), (114, 105), (109, 105)], [(114, 114), (109, 114), (114, 105), (109, 105)], [(114, 109)], [(114, 114), (114, 109)], [(114, 114), (114, 109)], [(114, 114), (109, 114)], [(48, 114), (48, 109), (48, 105)], [(114, 48), (109, 48)], [(48, 114), (48, 109), (48, 105)], [(48, 114), (48, 109), (48, 105)], [(48, 105)], [(48, 48)], [(114, 48), (109, 48)], [(114, 114), (114, 109)], [(48, 48)], [(48, 48)], [(48, 48)], [(48, 48)], [(48, 48)], [(48, 48)], [(48, 48)], [(48, 105)]]
def listS (op : Int) : List (UInt8 × UInt8) := lisL.getD (op - 1).toNat []
def extS (op sz fr : Int) : Bool := decide (fr = 1) || (decide (fr = 2) && decide (2 < sz)) || (decide (fr = 4) && decide (sz = 8) && decide (op = 27))
def restS (x : Ins) : Bool :=
  if x.op ≤ 8 ∨ x.op = 10 then decide (fitP x.s.m x.sz)
  else if x.op = 9 then decide (x.sz = 8 ∧ x.d.k = 1) || decide (fitP x.s.m x.sz)
  else if shP x.op then !(decide (x.s.k = 1 ∧ x.s.r ≠ 1)) && decide (0 ≤ x.s.m ∧ x.s.m ≤ 255)
  else if extP x.op then extS x.op x.sz x.fr
  else if x.op = 29 ∨ x.op = 31 ∨ x.op = 32 ∨ x.op = 33 then decide (fitP x.s.m 4)
  else if x.op = 44 then decide (0 ≤ x.s.m ∧ x.s.m ≤ 255)
  else true
def shapeB (x : Ins) : Bool := szK (patOf x.op).m x.sz && (kin2 (listS x.op) x.d.k x.s.k && restS x)
def condS (op cd : Int) : Bool := !(decide (¬ condP op ∧ cd ≠ 0)) && decide (0 ≤ cd ∧ cd ≤ 15)
def rexS (x : Ins) : Bool := !(rexB x.d || rexB x.s) || (!(rexA x.d x.sz) && (!(rexA x.s (sS x)) && (decide (x.sz ≠ 8) || decide (widP x.op))))
def okS (x : Ins) : Bool := decide (1 ≤ x.op ∧ x.op ≤ 44) && (decide (0 ≤ x.ln ∧ x.ln ≤ 15) && (shapeB x && (!(decide (¬ extP x.op ∧ x.fr ≠ 0)) && (condS x.op x.cd && (kindB x.d x.sz && (kindB x.s (sS x) && rexS x))))))
theorem sz15 (z : Int) : szK 15 z = decide (okSize z) := by
  unfold szK; rw [if_neg (by decide)]; exact decide_eq_decide.mpr (by unfold okSize; omega)
theorem sz14 (z : Int) : szK 14 z = (decide (okSize z) && decide (1 < z)) := by
  unfold szK; rw [if_neg (by decide), Bool.eq_iff_iff, Bool.and_eq_true, decide_eq_true_iff, decide_eq_true_iff, decide_eq_true_iff]; unfold okSize; omega
theorem sz8 (z : Int) : szK 8 z = decide (z = 8) := by
  unfold szK; rw [if_neg (by decide)]; exact decide_eq_decide.mpr (by omega)
theorem sz1 (z : Int) : szK 1 z = decide (z = 1) := by
  unfold szK; rw [if_neg (by decide)]; exact decide_eq_decide.mpr (by omega)
theorem sz0 (z : Int) : szK 0 z = decide (z = 0) := by
  unfold szK; rw [if_pos rfl]
/-- the kinds of the two tables are alike -/
theorem kin_eq (op a b : Int) (h1 : 1 ≤ op) (h2 : op ≤ 44) (ha : a = 0 ∨ a = 1 ∨ a = 2 ∨ a = 3) (hb : b = 0 ∨ b = 1 ∨ b = 2 ∨ b = 3) : kinK (patOf op).k a b = kin2 (listS op) a b := by
  have K : ∀ i, i < 44 → ∀ a, a < 4 → ∀ b, b < 4 → kinK (patL.getD i ⟨0, ⟨#[]⟩⟩).k (a : Nat) (b : Nat) = kin2 (lisL.getD i []) (a : Nat) (b : Nat) := by decide +kernel
  have e : patOf op = patL.getD (op - 1).toNat ⟨0, ⟨#[]⟩⟩ := if_pos ⟨h1, h2⟩
  rw [e]
  have := K (op - 1).toNat (by omega) a.toNat (by omega) b.toNat (by omega)
  rw [show ((a.toNat : Nat) : Int) = a by omega, show ((b.toNat : Nat) : Int) = b by omega] at this
  exact this
theorem kind_k {x : Opd} {z : Int} (h : kindB x z = true) : (x.k = 0 ∧ x = noOpd) ∨ (x.k = 1 ∧ x = regOpd x.r ∧ 0 ≤ x.r ∧ x.r ≤ topReg z) ∨ (x.k = 2 ∧ MemOk' x) ∨ (x.k = 3 ∧ x = immOpd x.m) := by
  have h := of_decide_eq_true h
  by_cases h1 : x.k = 1
  · rw [if_pos h1] at h; exact .inr (.inl ⟨h1, h⟩)
  · by_cases h2 : x.k = 2
    · rw [if_neg h1, if_pos h2] at h; exact .inr (.inr (.inl ⟨h2, h⟩))
    · by_cases h3 : x.k = 3
      · rw [if_neg h1, if_neg h2, if_pos h3] at h; exact .inr (.inr (.inr ⟨h3, h⟩))
      · rw [if_neg h1, if_neg h2, if_neg h3] at h
        exact .inl ⟨by rw [h]; rfl, h⟩
theorem kind_num {x : Opd} {z : Int} (h : kindB x z = true) (h3 : x.k ≠ 3) : x.m = 0 := by
  rcases kind_k h with ⟨_, e⟩ | ⟨_, e, _⟩ | ⟨_, e⟩ | ⟨e, _⟩
  · rw [e]; rfl
  · rw [e]; rfl
  · exact e.2.1
  · exact absurd e h3
theorem opd_kindB (x : Opd) (z : Int) : opdB x z = (decide (okSize z) && kindB x z) := by
  rw [Bool.eq_iff_iff, Bool.and_eq_true]; unfold opdB kindB; rw [decide_eq_true_iff, decide_eq_true_iff, decide_eq_true_iff]; unfold OpdOk okSize; exact Iff.rfl
/-- without a register a size says nothing -/
theorem kind_free {x : Opd} (z z' : Int) (h : x.k ≠ 1) : kindB x z = kindB x z' := by
  unfold kindB; exact decide_eq_decide.mpr (by rw [if_neg h, if_neg h])
theorem ask_rex {x : Opd} {z : Int} (h : kindB x z = true) (z' : Int) (hz : z' = z ∨ x.k ≠ 1) : askK x z' = rexA x z := by
  unfold askK rexA lowP
  rcases kind_k h with ⟨k, e⟩ | ⟨k, e, h1, h2⟩ | ⟨k, e⟩ | ⟨k, e⟩
  · rw [e]; unfold noOpd upP; simp
  · have hz : z' = z := hz.resolve_right (fun n => n k)
    subst hz
    rw [if_pos k, ← Bool.decide_or]
    refine decide_eq_decide.mpr ?_
    have b0 : x.b = 0 := by rw [e]; rfl
    have i0 : x.i = 0 := by rw [e]; rfl
    unfold upP; omega
  · obtain ⟨e1, e2, e3, e4, _⟩ := e
    rw [if_neg (by omega), if_pos k, ← Bool.decide_or]
    refine decide_eq_decide.mpr ?_
    unfold upP; omega
  · rw [if_neg (by omega), if_neg (by omega)]
    refine decide_eq_false ?_
    rw [e]; unfold immOpd upP; simp only; omega
theorem high_rex (x : Opd) : highK x = rexB x := by
  unfold highK rexB; exact decide_eq_decide.mpr (by omega)
theorem cond_eq (op cd : Int) : condK op cd = condS op cd := by
  unfold condK condS
  by_cases h : condP op
  · have n : decide (¬ condP op ∧ cd ≠ 0) = false := decide_eq_false (fun e => e.1 h)
    rw [if_pos h, n]; rfl
  · rw [if_neg h]
    by_cases h2 : cd = 0
    · subst h2
      have n : decide (¬ condP op ∧ (0 : Int) ≠ 0) = false := decide_eq_false (fun e => e.2 rfl)
      rw [n]; rfl
    · have n : decide (¬ condP op ∧ cd ≠ 0) = true := decide_eq_true ⟨h, h2⟩
      rw [decide_eq_false h2, n]; rfl
/-- what the tables say of masks and kinds -/
theorem tab_at (op : Int) (h1 : 1 ≤ op) (h2 : op ≤ 44) : ∃ i : Nat, i < 44 ∧ op = (i : Int) + 1 ∧ patOf op = patL.getD i ⟨0, ⟨#[]⟩⟩ ∧ listS op = lisL.getD i [] :=
  ⟨(op - 1).toNat, by omega, by omega, if_pos ⟨h1, h2⟩, rfl⟩
theorem mask_fact (op : Int) (h1 : 1 ≤ op) (h2 : op ≤ 44) : (op ≤ 10 → (patOf op).m = 15) ∧ (shP op → (patOf op).m = 15) ∧ (extP op → (patOf op).m = 14) ∧ ((op = 29 ∨ op = 30 ∨ op = 31 ∨ op = 32) → (patOf op).m = 8) ∧ ((op = 33 ∨ op = 34 ∨ op = 37 ∨ op = 38 ∨ op = 43 ∨ op = 44) ↔ (patOf op).m = 0) ∧ maskP (patOf op).m := by
  obtain ⟨i, hi, e, e2, _⟩ := tab_at op h1 h2
  have K : ∀ i, i < 44 → (i ≤ 9 → (patL.getD i ⟨0, ⟨#[]⟩⟩).m = 15) ∧ ((19 ≤ i ∧ i ≤ 23) → (patL.getD i ⟨0, ⟨#[]⟩⟩).m = 15) ∧ ((i = 25 ∨ i = 26) → (patL.getD i ⟨0, ⟨#[]⟩⟩).m = 14) ∧ ((28 ≤ i ∧ i ≤ 31) → (patL.getD i ⟨0, ⟨#[]⟩⟩).m = 8) ∧ ((i = 32 ∨ i = 33 ∨ i = 36 ∨ i = 37 ∨ i = 42 ∨ i = 43) → (patL.getD i ⟨0, ⟨#[]⟩⟩).m = 0) ∧ ((patL.getD i ⟨0, ⟨#[]⟩⟩).m = 0 → (i = 32 ∨ i = 33 ∨ i = 36 ∨ i = 37 ∨ i = 42 ∨ i = 43)) := by decide +kernel
  obtain ⟨a, b, c, d, f, g⟩ := K i hi
  rw [← e2] at a b c d f g
  unfold shP extP
  exact ⟨fun h => a (by omega), fun h => b (by omega), fun h => c (by omega), fun h => d (by omega), ⟨fun h => f (by omega), fun h => by have := g h; omega⟩, (pat_ok op).1⟩
theorem kl_range {b : UInt8} {k : Int} (h : kl b k = true) : k = 0 ∨ k = 1 ∨ k = 2 ∨ k = 3 := by
  have := of_decide_eq_true h
  rcases this with h | h | h | h <;> omega
theorem kin_range {l : List (UInt8 × UInt8)} {a b : Int} (h : kin2 l a b = true) : (a = 0 ∨ a = 1 ∨ a = 2 ∨ a = 3) ∧ (b = 0 ∨ b = 1 ∨ b = 2 ∨ b = 3) := by
  obtain ⟨p, _, hp⟩ := List.any_eq_true.1 h
  rw [Bool.and_eq_true] at hp
  exact ⟨kl_range hp.1, kl_range hp.2⟩
theorem kin_fact (op a b : Int) (h1 : 1 ≤ op) (h2 : op ≤ 44) (h : kin2 (listS op) a b = true) : (b = 3 → (op ≤ 10 ∨ shP op ∨ op = 29 ∨ op = 31 ∨ op = 32 ∨ op = 33 ∨ op = 44)) ∧ ((patOf op).m = 0 → a ≠ 1 ∧ b ≠ 1) := by
  obtain ⟨i, hi, e, e2, e3⟩ := tab_at op h1 h2
  obtain ⟨ra, rb⟩ := kin_range h
  have K1 : ∀ i, i < 44 → ∀ a, a < 4 → ∀ b, b < 4 → (!(kin2 (lisL.getD i []) (a : Nat) (b : Nat)) || (decide (b ≠ 3) || decide (i ≤ 9 ∨ (19 ≤ i ∧ i ≤ 23) ∨ i = 28 ∨ i = 30 ∨ i = 31 ∨ i = 32 ∨ i = 43))) = true := by decide +kernel
  have K2 : ∀ i, i < 44 → ∀ a, a < 4 → ∀ b, b < 4 → (!(kin2 (lisL.getD i []) (a : Nat) (b : Nat)) || (decide ((patL.getD i ⟨0, ⟨#[]⟩⟩).m ≠ 0) || decide (a ≠ 1 ∧ b ≠ 1))) = true := by decide +kernel
  rw [e3] at h
  have hh : kin2 (lisL.getD i []) (a.toNat : Nat) (b.toNat : Nat) = true := by rw [show ((a.toNat : Nat) : Int) = a by omega, show ((b.toNat : Nat) : Int) = b by omega]; exact h
  have k1 := K1 i hi a.toNat (by omega) b.toNat (by omega)
  have k2 := K2 i hi a.toNat (by omega) b.toNat (by omega)
  rw [hh, Bool.not_true, Bool.false_or, Bool.or_eq_true, decide_eq_true_iff, decide_eq_true_iff] at k1 k2
  rw [← e2] at k2
  unfold shP
  exact ⟨fun h => by have := k1.resolve_left (by omega); omega, fun h => by have := k2.resolve_left (fun n => n h); omega⟩
theorem num_nil (x : Ins) (h : x.s.m = 0) : numK x = true := by
  unfold numK; rw [h]; split
  · rfl
  · split
    · rfl
    · split
      · rfl
      · split <;> rfl
theorem rest_eq (x : Ins) (h1 : 1 ≤ x.op) (h2 : x.op ≤ 44) (hz : szK (patOf x.op).m x.sz = true) (hk : kin2 (listS x.op) x.d.k x.s.k = true) (hm : x.s.k ≠ 3 → x.s.m = 0) (hf : extP x.op ∨ x.fr = 0) :
    restS x = (!(decide (shP x.op ∧ x.s.k = 1 ∧ x.s.r ≠ 1)) && (numK x && fromK x.op x.sz x.fr)) := by
  obtain ⟨m1, m2, m3, m4, m5, _⟩ := mask_fact x.op h1 h2
  obtain ⟨k1, k2⟩ := kin_fact x.op _ _ h1 h2 hk
  have fr0 : ¬ extP x.op → fromK x.op x.sz x.fr = true := fun h => by
    unfold fromK; rw [if_neg h]; exact decide_eq_true (hf.resolve_left h)
  by_cases c1 : x.op ≤ 8 ∨ x.op = 10
  · have ns : ¬ shP x.op := by unfold shP; omega
    have ne : ¬ extP x.op := by unfold extP; omega
    rw [m1 (by omega), sz15] at hz
    have hz := of_decide_eq_true hz
    unfold restS numK
    have n1 : decide (shP x.op ∧ x.s.k = 1 ∧ x.s.r ≠ 1) = false := decide_eq_false (fun e => ns e.1)
    rw [if_pos c1, fr0 ne, n1, if_neg (fun e => by rcases e with e | e; exact ns e; omega), if_neg (by omega)]
    rcases hz with e | e | e | e
    · rw [if_pos e, e]; simp [fitP]
    · rw [if_neg (by omega), if_pos e, e]; simp [fitP]
    · rw [if_neg (by omega), if_neg (by omega), e]; simp [fitP]
    · rw [if_neg (by omega), if_neg (by omega), e]; simp [fitP]
  · by_cases c2 : x.op = 9
    · have ns : ¬ shP x.op := by unfold shP; omega
      have ne : ¬ extP x.op := by unfold extP; omega
      rw [m1 (by omega), sz15] at hz
      have hz := of_decide_eq_true hz
      unfold restS numK
      have n1 : decide (shP x.op ∧ x.s.k = 1 ∧ x.s.r ≠ 1) = false := decide_eq_false (fun e => ns e.1)
      rw [if_neg c1, if_pos c2, fr0 ne, n1, if_neg (fun e => by rcases e with e | e; exact ns e; omega)]
      by_cases c : x.sz = 8 ∧ x.d.k = 1
      · rw [if_pos ⟨c2, c⟩, decide_eq_true c]; rfl
      · rw [if_neg (fun e => c e.2), decide_eq_false c]
        rcases hz with e | e | e | e
        · rw [if_pos e, e]; simp [fitP]
        · rw [if_neg (by omega), if_pos e, e]; simp [fitP]
        · rw [if_neg (by omega), if_neg (by omega), e]; simp [fitP]
        · rw [if_neg (by omega), if_neg (by omega), e]; simp [fitP]
    · by_cases c3 : shP x.op
      · have ne : ¬ extP x.op := by unfold extP; unfold shP at c3; omega
        unfold restS numK
        rw [if_neg c1, if_neg c2, if_pos c3, fr0 ne, if_pos (.inl c3), Bool.and_true]
        congr 2
        exact decide_eq_decide.mpr ⟨fun e => ⟨c3, e⟩, fun e => e.2⟩
      · have n1 : decide (shP x.op ∧ x.s.k = 1 ∧ x.s.r ≠ 1) = false := decide_eq_false (fun e => c3 e.1)
        rw [n1]
        by_cases c4 : extP x.op
        · rw [m3 c4, sz14] at hz
          rw [Bool.and_eq_true] at hz
          have z1 := of_decide_eq_true hz.1
          have z2 := of_decide_eq_true hz.2
          rw [num_nil x (hm fun e => by have := k1 e; unfold shP extP at *; omega)]
          unfold restS extS fromK
          rw [if_neg c1, if_neg c2, if_neg c3, if_pos c4, if_pos c4, ← Bool.decide_and, ← Bool.decide_and, ← Bool.decide_and, ← Bool.decide_or, ← Bool.decide_or]
          simp only [Bool.not_false, Bool.true_and]
          refine decide_eq_decide.mpr ?_
          unfold fromP; unfold okSize at z1; omega
        · rw [fr0 c4]
          by_cases c5 : x.op = 29 ∨ x.op = 31 ∨ x.op = 32 ∨ x.op = 33
          · have z : x.sz = 8 ∨ x.sz = 0 := by
              by_cases e : x.op = 33
              · rw [m5.1 (by omega), sz0] at hz; exact .inr (of_decide_eq_true hz)
              · rw [m4 (by omega), sz8] at hz; exact .inl (of_decide_eq_true hz)
            unfold restS numK
            rw [if_neg c1, if_neg c2, if_neg c3, if_neg c4, if_pos c5, if_neg (fun e => by rcases e with e | e; exact c3 e; omega), if_neg (by omega), if_neg (by omega), if_neg (by omega)]
            simp [fitP]
          · by_cases c6 : x.op = 44
            · unfold restS numK
              rw [if_neg c1, if_neg c2, if_neg c3, if_neg c4, if_neg c5, if_pos c6, if_pos (.inr c6)]
              simp
            · rw [num_nil x (hm fun e => by have := k1 e; unfold shP at *; omega)]
              unfold restS
              rw [if_neg c1, if_neg c2, if_neg c3, if_neg c4, if_neg c5, if_neg c6]
              rfl
theorem from_ext {op sz fr : Int} (h : fromK op sz fr = true) : (extP op ∨ fr = 0) ∧ 0 ≤ fr ∧ (shP op → fr = 0) := by
  unfold fromK at h
  by_cases c : extP op
  · rw [if_pos c] at h
    have h := of_decide_eq_true h
    unfold fromP at h
    exact ⟨.inl c, by omega, fun e => by unfold shP at e; unfold extP at c; omega⟩
  · rw [if_neg c] at h
    have h := of_decide_eq_true h
    exact ⟨.inr h, by omega, fun _ => h⟩
/-- both sides' sizes -/
theorem sizes_eq (x : Ins) (h1 : 1 ≤ x.op) (h2 : x.op ≤ 44) (hz : szK (patOf x.op).m x.sz = true) (hk : kin2 (listS x.op) x.d.k x.s.k = true) (hf : fromK x.op x.sz x.fr = true) :
    (szD x = x.sz ∨ x.d.k ≠ 1) ∧ (szS x = sS x ∨ x.s.k ≠ 1) ∧ okSize (szD x) ∧ (kindB x.s (sS x) = true → okSize (szS x)) := by
  obtain ⟨m1, m2, m3, m4, m5, m6⟩ := mask_fact x.op h1 h2
  obtain ⟨k1, k2⟩ := kin_fact x.op _ _ h1 h2 hk
  obtain ⟨f1, f2, f3⟩ := from_ext hf
  have zz : okSize x.sz ∨ (x.sz = 0 ∧ (patOf x.op).m = 0) := by
    unfold szK at hz
    by_cases c : (patOf x.op).m = 0
    · rw [if_pos c] at hz; exact .inr ⟨of_decide_eq_true hz, c⟩
    · rw [if_neg c] at hz; have := of_decide_eq_true hz; unfold okSize; omega
  rcases zz with z | ⟨z, c⟩
  · have nz : x.sz ≠ 0 := by unfold okSize at z; omega
    have e1 : szD x = x.sz := by unfold szD; rw [if_neg nz]
    have e2 : szS x = sS x := by
      unfold szS sS frS; rw [if_neg nz]
      by_cases c : x.fr = 0
      · rw [if_neg (by omega)]
        by_cases c2 : shP x.op
        · rw [if_pos c2, if_pos c2]
        · rw [if_neg c2, if_neg c2, if_neg (by omega)]
      · rw [if_pos c, if_neg (fun e => c (f3 e)), if_pos (by omega)]
    refine ⟨.inl e1, .inl e2, by rw [e1]; exact z, fun _ => ?_⟩
    unfold szS; rw [if_neg nz]
    by_cases c : x.fr = 0
    · rw [if_neg (by omega)]
      by_cases c2 : shP x.op
      · rw [if_pos c2]; exact .inr (.inr (.inr rfl))
      · rw [if_neg c2]; exact z
    · rw [if_pos c]
      have e := f1.resolve_right c
      unfold fromK at hf
      rw [if_pos e] at hf
      have hf := of_decide_eq_true hf
      unfold fromP at hf; unfold okSize; omega
  · refine ⟨.inr (k2 c).1, .inr (k2 c).2, ?_, fun _ => ?_⟩
    · unfold szD; rw [if_pos z]; exact .inr (.inr (.inr rfl))
    · unfold szS; rw [if_pos z]; exact .inr (.inr (.inr rfl))
theorem rex_eq (x : Ins) (h1 : 1 ≤ x.op) (h2 : x.op ≤ 44) (hz : szK (patOf x.op).m x.sz = true) (hd : kindB x.d x.sz = true) (hs : kindB x.s (sS x) = true) (e1 : szD x = x.sz ∨ x.d.k ≠ 1) (e2 : szS x = sS x ∨ x.s.k ≠ 1) :
    (!needK x || (!highK x.d && !highK x.s)) = rexS x := by
  obtain ⟨m1, m2, m3, m4, m5, m6⟩ := mask_fact x.op h1 h2
  have W : wideK x.op x.sz = !(decide (x.sz ≠ 8) || decide (widP x.op)) := by
    unfold wideK
    by_cases c : x.sz = 8
    · have : (patOf x.op).m ≠ 0 := fun e => by rw [e, sz0] at hz; have := of_decide_eq_true hz; omega
      have q := mt m5.1 this
      rw [decide_eq_false (fun e : x.sz ≠ 8 => e c), Bool.false_or, Bool.eq_iff_iff, Bool.not_eq_true', decide_eq_true_iff, decide_eq_false_iff_not]
      unfold fixP widP; omega
    · rw [decide_eq_true c, decide_eq_false (fun e => c e.1)]; rfl
  unfold needK rexS
  rw [W, ask_rex hd _ e1, ask_rex hs _ e2, high_rex, high_rex]
  generalize rexA x.d x.sz = a; generalize rexA x.s (sS x) = b; generalize rexB x.d = p; generalize rexB x.s = q
  generalize (decide (x.sz ≠ 8) || decide (widP x.op)) = t
  cases a <;> cases b <;> cases p <;> cases q <;> cases t <;> rfl
theorem kind_move {x : Opd} {z z' : Int} (h : z = z' ∨ x.k ≠ 1) : kindB x z = kindB x z' := by
  rcases h with rfl | h
  · rfl
  · exact kind_free _ _ h
theorem ins_eq (x : Ins) : insK x = okS x := by
  by_cases hop : 1 ≤ x.op ∧ x.op ≤ 44
  · obtain ⟨h1, h2⟩ := hop
    refine Bool.eq_iff_iff.mpr ?_
    unfold insK okS opsK shapeB
    simp only [Bool.and_eq_true]
    rw [cond_eq]
    constructor
    · rintro ⟨hl, hc, hf, ⟨hd, hs, hsh, hz, hk⟩, hn, hr⟩
      rw [kin_eq x.op _ _ h1 h2 (opd_kind hd) (opd_kind hs)] at hk
      obtain ⟨e1, e2, e3, e4⟩ := sizes_eq x h1 h2 hz hk hf
      rw [opd_kindB, Bool.and_eq_true] at hd hs
      have kd : kindB x.d x.sz = true := by rw [← kind_move e1]; exact hd.2
      have ks : kindB x.s (sS x) = true := by rw [← kind_move e2]; exact hs.2
      refine ⟨decide_eq_true ⟨h1, h2⟩, hl, ⟨hz, hk, ?_⟩, ?_, hc, kd, ks, ?_⟩
      · rw [rest_eq x h1 h2 hz hk (kind_num ks) (from_ext hf).1, hsh, hn, hf]; rfl
      · rw [decide_eq_false (fun e => (from_ext hf).1.elim e.1 e.2)]; rfl
      · rw [← rex_eq x h1 h2 hz kd ks e1 e2]; exact hr
    · rintro ⟨_, hl, ⟨hz, hk, hR⟩, hf0, hc, kd, ks, hr⟩
      have hf1 : extP x.op ∨ x.fr = 0 := by
        by_cases c : extP x.op
        · exact .inl c
        · by_cases c2 : x.fr = 0
          · exact .inr c2
          · rw [decide_eq_true ⟨c, c2⟩] at hf0; cases hf0
      rw [rest_eq x h1 h2 hz hk (kind_num ks) hf1, Bool.and_eq_true, Bool.and_eq_true] at hR
      obtain ⟨hsh, hn, hf⟩ := hR
      obtain ⟨e1, e2, e3, e4⟩ := sizes_eq x h1 h2 hz hk hf
      have hd : opdB x.d (szD x) = true := by rw [opd_kindB, decide_eq_true e3, kind_move e1, kd]; rfl
      have hs : opdB x.s (szS x) = true := by rw [opd_kindB, decide_eq_true (e4 ks), kind_move e2, ks]; rfl
      refine ⟨hl, hc, hf, ⟨hd, hs, hsh, hz, ?_⟩, hn, ?_⟩
      · rw [kin_eq x.op _ _ h1 h2 (opd_kind hd) (opd_kind hs)]; exact hk
      · rw [rex_eq x h1 h2 hz kd ks e1 e2]; exact hr
  · unfold insK okS opsK
    rw [decide_eq_false hop]
    have e : kinK (patOf x.op).k x.d.k x.s.k = false := by
      unfold patOf; rw [if_neg hop]; rfl
    rw [e]
    simp
end Go.Proofs.YtjnjlgaemmdkhaaGreatDoor
