/-
  Proved: for every two slices of bytes, laws.FnNames returns true (operations, conditions and registers are read back from their names, and shapes, groups and classes are those of the specification); condition: the eight tables hold what the program's text lays there, which the card ties to that text.
-/
import Derived.Test.YtdfmchknpiodkaaDoorCards
import Derived.Test.YtdfmchknpiodkaaDoorTie
import Derived.LaidMore
import Derived.Stop.Joined
import Derived.OpenVars
import Derived.WalkKit
import Derived.ProofKit
import Derived.OpenShut
import Derived.ShutString
import Derived.Test.YtdfmchknpiodkaaDoorWalkNames
import Derived.ChangeOld
import Derived.Below
namespace Go.Proofs.YtdfmchknpiodkaaDoor.fnNames
open Go.ChangeShapes Go.WideShapes Go.ChangeAt Go.RowKit
open Go.ChangeMaps (open_string shut_string)
set_option linter.unusedVariables false

theorem own : ownKnob Tryd.prog.godebug = none := by kernel_rfl
theorem laidOut : laidOutB Tryd.prog = true := by kernel_rfl

/-- WHAT THE WALK IS TOLD OF A SLICE OF INTEGERS THAT CAME IN: it is nil; or it leads to a row of 'cap' cells, the numbers 'zs' (the first 'len' are its elements, the rest its spare room), each fitting its kind. -/
def IsRow (k : IntKind) (w : World) (a : Option Addr) (len cap : Nat) (zs : List Int) : Prop :=
  (a = none ∧ len = 0 ∧ cap = 0 ∧ zs = []) ∨
  ∃ x, a = some x ∧ len ≤ cap ∧ cap ≤ maxLen ∧ zs.length = cap ∧ (∀ i, i < zs.length → w.cell? (x.add i) = some (.int k (zs.getD i 0))) ∧ ∀ n ∈ zs, (Lit.int k n).wf = true

open AtD
theorem byt_of_row {w : World} {a : Option Addr} {len cap : Nat} {zs : List Int} (h : IsRow .u8 w a len cap zs) : Byt w a len (fun j => zs.getD j 0) := by
  intro hl
  rcases h with ⟨_, h0, _, _⟩ | ⟨x, rfl, hlc, hm, hz, hc, hwf⟩
  · omega
  · obtain ⟨b, off, rfl, hcell⟩ := ints_at hc (by omega)
    refine ⟨b, off, rfl, ?_, fun j hj => ⟨hcell j (by omega), ?_⟩⟩
    · have h0 := hcell 0 (by omega)
      rcases Nat.lt_or_ge b w.heap.size with h | h
      · exact h
      · simp [World.cell?, Array.getElem?_eq_none h] at h0
    · have hj' : j < zs.length := by omega
      have := bounds_u8 (hwf zs[j] (List.getElem_mem hj'))
      simp [List.getElem?_eq_getElem hj']; omega
theorem met_groupOps {W : World} {q : List (String × DataW Unit)} (hq : (q.filter fun x => x.1 == "loop.example/g00664/impl.groupOps") = [("loop.example/g00664/impl.groupOps", Rows.laid_loop_example_g00664_impl_groupOps)]) (h : laidMetH Tryd.prog q W) : Grps W 4 := by
  have h1 := h.filter (fun x => x.1 == "loop.example/g00664/impl.groupOps")
  rw [hq] at h1
  exact groupsMet rfl h1
theorem met_arithShapes {W : World} {q : List (String × DataW Unit)} (hq : (q.filter fun x => x.1 == "loop.example/g00664/impl.arithShapes") = [("loop.example/g00664/impl.arithShapes", Rows.laid_loop_example_g00664_impl_arithShapes)]) (h : laidMetH Tryd.prog q W) : Ari W 7 := by
  have h1 := h.filter (fun x => x.1 == "loop.example/g00664/impl.arithShapes")
  rw [hq] at h1
  exact arithMet rfl h1
theorem tabs_met {W : World} (h : laidMetH Tryd.prog Rows.fnNamesRow.laid W) : Tabs W :=
  ⟨⟨met_byteNames (q := Rows.fnNamesRow.laid) (by kernel_rfl) h, met_wordNames (q := Rows.fnNamesRow.laid) (by kernel_rfl) h, met_dwordNames (q := Rows.fnNamesRow.laid) (by kernel_rfl) h, met_qwordNames (q := Rows.fnNamesRow.laid) (by kernel_rfl) h⟩,
    met_opNames (q := Rows.fnNamesRow.laid) (by kernel_rfl) h, met_condNames (q := Rows.fnNamesRow.laid) (by kernel_rfl) h, met_groupOps (q := Rows.fnNamesRow.laid) (by kernel_rfl) h, met_arithShapes (q := Rows.fnNamesRow.laid) (by kernel_rfl) h⟩
theorem below_of_q {W W' : World} (h : ∃ q, W' = W.drewN q) : Below W.heap.size W W' := by
  obtain ⟨q, rfl⟩ := h; exact below_q W q
theorem groupI' (gr : Int) (j : Nat) (w : World) (h1 : 0 < gr) (h7 : gr ≤ 7) (hj : j < 8) (hg : Grps w 4) :
    Calls Tryd.prog 20 #[.int .i64 gr, .int .i64 (j : Int)] w fun e w' => e = .returned (.tuple #[.int .i64 (grp (gr - 1).toNat j), .int .i64 (grpCode (grp (gr - 1).toNat j))]) ∧ w = w' := by
  obtain ⟨i, hi⟩ := Int.eq_ofNat_of_zero_le (show 0 ≤ gr - 1 by omega)
  obtain rfl : gr = (i : Int) + 1 := by omega
  rw [show ((i : Int) + 1 - 1).toNat = i by omega]
  exact groupI i j w (by omega) hj hg
theorem groupS' (gr : Int) (j : Nat) (w : World) (h1 : 0 < gr) (h7 : gr ≤ 7) (hj : j < 8) :
    Calls Tryd.prog 21 #[.int .i64 gr, .int .i64 (j : Int)] w fun e w' => e = .returned (.tuple #[.int .i64 (grp (gr - 1).toNat j), .int .i64 (grpCode (grp (gr - 1).toNat j))]) ∧ Below w.heap.size w w' := by
  obtain ⟨i, hi⟩ := Int.eq_ofNat_of_zero_le (show 0 ≤ gr - 1 by omega)
  obtain rfl : gr = (i : Int) + 1 := by omega
  rw [show ((i : Int) + 1 - 1).toNat = i by omega]
  exact groupS i j w (by omega) hj
theorem regOf_back {n i : Nat} (hn : n < 4) (hi : i < (regsL (szAt n)).length) (w : World) (hR : Regs w) :
    Calls Tryd.prog 14 #[.string (nm (regsL (szAt n)) i)] w fun e w' => e = .returned (.tuple #[.int .i64 (i : Int), .int .i64 (szAt n : Int), .int .i64 0]) ∧ Below w.heap.size w w' := by
  refine (regOfI _ w (reg_size hn hi) (reg_ne hn hi) hR).mono ?_
  rintro e w' ⟨a, b, c, ho, rfl, hb⟩
  obtain ⟨rfl, rfl, rfl⟩ := reg_back hn hi ho.out
  exact ⟨rfl, hb⟩
theorem opOf_back {i : Nat} (hi : i < 44) (w : World) (hN : Nms w 5 opsL) :
    Calls Tryd.prog 22 #[.string (nm opsL i)] w fun e w' => e = .returned (.int .i64 (1 + (i : Int))) ∧ Below w.heap.size w w' := by
  refine (opOfI _ w hN).mono ?_
  rintro e w' ⟨r, hr, rfl, hb⟩
  rw [op_back hi hr, Int.add_comm]
  exact ⟨rfl, hb⟩
theorem condOf_back {i : Nat} (hi : i < 16) (w : World) (hN : Nms w 6 condsL) :
    Calls Tryd.prog 25 #[.string (nm condsL i)] w fun e w' => e = .returned (.int .i64 (i : Int)) ∧ Below w.heap.size w w' := by
  refine (condOfI _ w hN).mono ?_
  rintro e w' ⟨r, hr, rfl, hb⟩
  rw [cond_back hi hr, Int.add_zero]
  exact ⟨rfl, hb⟩
/-- all contracts that the walk of laws.FnNames asks for -/
theorem namesK_of {w : World} {a0 a1 : Option Addr} {n0 c0 n1 c1 : Nat} (hT : Tabs w) {k0 k1 k2 k3 m0 m1 m2 m3 m4 i : Nat} (hk0 : k0 < 44) (hk1 : k1 < 16) (hk2 : k2 < 4) (hi : i < (regsL (szAt k2)).length) (hm3 : m3 < 256) (hm4 : m4 < 8) (tb : Bool) (rE : Int) (hrE : rE = (i : Int))
    (A0 : ∀ W, Below w.heap.size w W → Calls Tryd.prog 12 #[.slice a1 n1 c1, .int .i64 0, .int .i64 44] W fun e W' => e = .returned (.int .i64 (k0 : Int)) ∧ ∃ q, W' = W.drewN q) (A1 : ∀ W, Below w.heap.size w W → Calls Tryd.prog 12 #[.slice a1 n1 c1, .int .i64 1, .int .i64 16] W fun e W' => e = .returned (.int .i64 (k1 : Int)) ∧ ∃ q, W' = W.drewN q) (SZ : ∀ W, Below w.heap.size w W → Calls Tryd.prog 13 #[.slice a1 n1 c1, .int .i64 2] W fun e W' => e = .returned (.int .i64 (sz4 k2 : Nat)) ∧ Below W.heap.size W W') (A3 : ∀ W, Below w.heap.size w W → Calls Tryd.prog 12 #[.slice a1 n1 c1, .int .i64 3, .int .i64 16] W fun e W' => e = .returned (.int .i64 (k3 : Int)) ∧ ∃ q, W' = W.drewN q)
    (B0 : ∀ W, Below w.heap.size w W → Calls Tryd.prog 12 #[.slice a0 n0 c0, .int .i64 0, .int .i64 3] W fun e W' => e = .returned (.int .i64 (m0 : Int)) ∧ ∃ q, W' = W.drewN q) (B1 : ∀ W, Below w.heap.size w W → Calls Tryd.prog 12 #[.slice a0 n0 c0, .int .i64 1, .int .i64 4] W fun e W' => e = .returned (.int .i64 (m1 : Int)) ∧ ∃ q, W' = W.drewN q) (B2 : ∀ W, Below w.heap.size w W → Calls Tryd.prog 12 #[.slice a0 n0 c0, .int .i64 2, .int .i64 2] W fun e W' => e = .returned (.int .i64 (m2 : Int)) ∧ ∃ q, W' = W.drewN q) (B3 : ∀ W, Below w.heap.size w W → Calls Tryd.prog 12 #[.slice a0 n0 c0, .int .i64 3, .int .i64 256] W fun e W' => e = .returned (.int .i64 (m3 : Int)) ∧ ∃ q, W' = W.drewN q) (B4 : ∀ W, Below w.heap.size w W → Calls Tryd.prog 12 #[.slice a0 n0 c0, .int .i64 4, .int .i64 8] W fun e W' => e = .returned (.int .i64 (m4 : Int)) ∧ ∃ q, W' = W.drewN q) :
    NamesK w (.slice a0 n0 c0) (.slice a1 n1 c1) k0 k1 k3 m0 m1 m2 m3 m4 (szAt k2 : Nat) rE (Cl.clsOf (1 + k0)) tb (shpRes (shapeT tb m3)).o (shpRes (shapeT tb m3)).f (shpRes (shapeT tb m3)).g (shpRes (shapeT tb m3)).y (shpRes (shapeT tb m3)).r (shpCode (shapeT tb m3))
      (grp ((shpRes (shapeT tb m3)).g - 1).toNat m4) (grpCode (grp ((shpRes (shapeT tb m3)).g - 1).toNat m4)) (nm (regsL (szAt k2)) i) (nm opsL k0) (nm condsL k1) := by
  subst hrE
  have hg := grp_res tb m3 hm3
  have cv {P : Ending → Prop} {W W' : World} {e : Ending} (h : P e ∧ ∃ q, W' = W.drewN q) : P e ∧ Below W.heap.size W W' := ⟨h.1, below_of_q h.2⟩
  have e1 : (1 : Int) + k0 = (k0 : Int) + 1 := Int.add_comm _ _
  refine { A0 := fun W h => (A0 W h).mono fun e W' h => ⟨h.1, below_of_q h.2⟩, A1 := fun W h => (A1 W h).mono fun e W' h => ⟨h.1, below_of_q h.2⟩, SZ := SZ, A3 := fun W h => (A3 W h).mono fun e W' h => ⟨h.1, below_of_q h.2⟩, B0 := fun W h => (B0 W h).mono fun e W' h => ⟨h.1, below_of_q h.2⟩, B1 := fun W h => (B1 W h).mono fun e W' h => ⟨h.1, below_of_q h.2⟩, B2 := fun W h => (B2 W h).mono fun e W' h => ⟨h.1, below_of_q h.2⟩, B3 := fun W h => (B3 W h).mono fun e W' h => ⟨h.1, below_of_q h.2⟩, B4 := fun W h => (B4 W h).mono fun e W' h => ⟨h.1, below_of_q h.2⟩, RN := fun W h => regNameI _ i W (szAt_ok k2) hi (hT.below h).1, RO := fun W h => regOf_back hk2 hi W (hT.below h).1, CI := fun W h => Cl.classI _ W (by omega) (by omega), CS := fun W h => Cl.classS _ W (by omega) (by omega), HI := fun W h => shapeOfI tb m3 W hm3 (hT.below h).2.2.2.2, HS := fun W h => shapeOfS tb m3 W hm3, GI := fun hp W h => groupI' _ m4 W hp hg.2 hm4 (hT.below h).2.2.2.1, GS := fun hp W h => groupS' _ m4 W hp hg.2 hm4, OI := fun W h => ?_, OF := fun W h => opOf_back hk0 W (hT.below h).2.1, OS := fun W h => ?_, DI := fun W h => condNameI k1 W hk1 (hT.below h).2.2.1, DF := fun W h => condOf_back hk1 W (hT.below h).2.2.1, DS := fun W h => condNameS k1 W hk1 }
  · rw [e1]; exact opNameI k0 W hk0 (hT.below h).2.1
  · rw [e1]; exact opNameS k0 W hk0
set_option maxRecDepth 100000 in
theorem big0 (a0 a1 : Option Addr) (n0 c0 n1 c1 : Nat) (w : World) (h : (1048576 : Int) < n0) : Calls Tryd.prog 3 #[.slice a0 n0 c0, .slice a1 n1 c1] w fun e w' => e = .returned (.bool true) ∧ Below w.heap.size w w' := by
  go_enter Tryd.func3, Tryd.ntmps3
  go_wp2
  go_ret
  exact ⟨rfl, Below.refl _ _⟩
set_option maxRecDepth 100000 in
theorem big1 (a0 a1 : Option Addr) (n0 c0 n1 c1 : Nat) (w : World) (h0 : ¬ (1048576 : Int) < n0) (h : (1048576 : Int) < n1) : Calls Tryd.prog 3 #[.slice a0 n0 c0, .slice a1 n1 c1] w fun e w' => e = .returned (.bool true) ∧ Below w.heap.size w w' := by
  go_enter Tryd.func3, Tryd.ntmps3
  go_wp2
  go_ret
  exact ⟨rfl, Below.refl _ _⟩
theorem walk (a0 : Option Addr) (len0 cap0 : Nat) (z0 : List Int) (a1 : Option Addr) (len1 cap1 : Nat) (z1 : List Int) (w : World) (w0 : IsRow .u8 w a0 len0 cap0 z0) (w1 : IsRow .u8 w a1 len1 cap1 z1) (hL : laidMetH Tryd.prog Rows.fnNamesRow.laid w) :
    Calls Tryd.prog 3 #[.slice a0 len0 cap0, .slice a1 len1 cap1] w fun e w' => e = .returned (.bool true) ∧ Below w.heap.size w w' := by
  have hT := tabs_met hL
  have hr0 := byt_of_row w0
  have hr1 := byt_of_row w1
  clear hL w0 w1
  by_cases hb0 : (1048576 : Int) < len0
  · exact big0 _ _ _ _ _ _ w hb0
  by_cases hb1 : (1048576 : Int) < len1
  · exact big1 _ _ _ _ _ _ w hb0 hb1
  obtain ⟨k0, hk0, A0⟩ := atK 0 44 len1 cap1 a1 _ w hr1 (by omega) (by omega) (by omega) (by omega)
  obtain ⟨k1, hk1, A1⟩ := atK 1 16 len1 cap1 a1 _ w hr1 (by omega) (by omega) (by omega) (by omega)
  obtain ⟨k2, hk2, SZ⟩ := sizeK len1 cap1 a1 _ w hr1 (by omega)
  obtain ⟨k3, hk3, A3⟩ := atK 3 16 len1 cap1 a1 _ w hr1 (by omega) (by omega) (by omega) (by omega)
  obtain ⟨m0, hm0, B0⟩ := atK 0 3 len0 cap0 a0 _ w hr0 (by omega) (by omega) (by omega) (by omega)
  obtain ⟨m1, hm1, B1⟩ := atK 1 4 len0 cap0 a0 _ w hr0 (by omega) (by omega) (by omega) (by omega)
  obtain ⟨m2, hm2, B2⟩ := atK 2 2 len0 cap0 a0 _ w hr0 (by omega) (by omega) (by omega) (by omega)
  obtain ⟨m3, hm3, B3⟩ := atK 3 256 len0 cap0 a0 _ w hr0 (by omega) (by omega) (by omega) (by omega)
  obtain ⟨m4, hm4, B4⟩ := atK 4 8 len0 cap0 a0 _ w hr0 (by omega) (by omega) (by omega) (by omega)
  obtain ⟨tb, htb⟩ : ∃ tb : Bool, ((m2 : Int) == 1) = tb := ⟨_, rfl⟩
  have mk := fun (i : Nat) (hi : i < (regsL (szAt k2)).length) (rE : Int) (hrE : rE = (i : Int)) => namesK_of (a0 := a0) (a1 := a1) (n0 := len0) (c0 := cap0) (n1 := len1) (c1 := cap1) hT hk0 hk1 hk2 hi hm3 hm4 tb rE hrE A0 A1 SZ A3 B0 B1 B2 B3 B4
  have hl16 := (regs_len (szAt k2)).2
  by_cases hs : ((szAt k2 : Nat) : Int) = 1
  · have hs' : (((szAt k2 : Nat) : Int) == 1) = true := beq_iff_eq.mpr hs
    by_cases hm : (m0 : Int) = 0
    · have hm' : ((m0 : Int) == 0) = true := beq_iff_eq.mpr hm
      have hl20 : (regsL (szAt k2)).length = 20 := by rw [show szAt k2 = 1 by omega]; rfl
      have K := mk (16 + m1) (by omega) (16 + (m1 : Int)) (by omega)
      by_cases hc : shpCode (shapeT tb m3) = 0
      · by_cases hgr : 0 < (shpRes (shapeT tb m3)).g
        · exact namesCG _ _ _ _ _ _ _ _ _ _ _ _ _ _ _ _ _ _ _ _ _ _ _ _ _ _ _ _ _ (by omega) (by omega) (by omega) (by omega) (by omega) (by omega) htb hs' hm' (beq_iff_eq.mpr hc) hgr (Lib.hid K)
        · exact namesCZ _ _ _ _ _ _ _ _ _ _ _ _ _ _ _ _ _ _ _ _ _ _ _ _ _ _ _ _ _ (by omega) (by omega) (by omega) (by omega) (by omega) (by omega) htb hs' hm' (beq_iff_eq.mpr hc) (decide_eq_false hgr) (Lib.hid K)
      · exact namesCN _ _ _ _ _ _ _ _ _ _ _ _ _ _ _ _ _ _ _ _ _ _ _ _ _ _ _ _ _ (by omega) (by omega) (by omega) (by omega) (by omega) (by omega) htb hs' hm' (beq_eq_false_iff_ne.mpr hc) (Lib.hid K)
    · have hm' : ((m0 : Int) == 0) = false := beq_eq_false_iff_ne.mpr hm
      have K := mk k3 (by omega) (k3 : Int) rfl
      by_cases hc : shpCode (shapeT tb m3) = 0
      · by_cases hgr : 0 < (shpRes (shapeT tb m3)).g
        · exact namesBG _ _ _ _ _ _ _ _ _ _ _ _ _ _ _ _ _ _ _ _ _ _ _ _ _ _ _ _ _ (by omega) (by omega) (by omega) (by omega) (by omega) (by omega) htb hs' hm' (beq_iff_eq.mpr hc) hgr (Lib.hid K)
        · exact namesBZ _ _ _ _ _ _ _ _ _ _ _ _ _ _ _ _ _ _ _ _ _ _ _ _ _ _ _ _ _ (by omega) (by omega) (by omega) (by omega) (by omega) (by omega) htb hs' hm' (beq_iff_eq.mpr hc) (decide_eq_false hgr) (Lib.hid K)
      · exact namesBN _ _ _ _ _ _ _ _ _ _ _ _ _ _ _ _ _ _ _ _ _ _ _ _ _ _ _ _ _ (by omega) (by omega) (by omega) (by omega) (by omega) (by omega) htb hs' hm' (beq_eq_false_iff_ne.mpr hc) (Lib.hid K)
  · have hs' : (((szAt k2 : Nat) : Int) == 1) = false := beq_eq_false_iff_ne.mpr hs
    have K := mk k3 (by omega) (k3 : Int) rfl
    by_cases hc : shpCode (shapeT tb m3) = 0
    · by_cases hgr : 0 < (shpRes (shapeT tb m3)).g
      · exact namesAG _ _ _ _ _ _ _ _ _ _ _ _ _ _ _ _ _ _ _ _ _ _ _ _ _ _ _ _ _ (by omega) (by omega) (by omega) (by omega) (by omega) (by omega) htb hs' (beq_iff_eq.mpr hc) hgr (Lib.hid K)
      · exact namesAZ _ _ _ _ _ _ _ _ _ _ _ _ _ _ _ _ _ _ _ _ _ _ _ _ _ _ _ _ _ (by omega) (by omega) (by omega) (by omega) (by omega) (by omega) htb hs' (beq_iff_eq.mpr hc) (decide_eq_false hgr) (Lib.hid K)
    · exact namesAN _ _ _ _ _ _ _ _ _ _ _ _ _ _ _ _ _ _ _ _ _ _ _ _ _ _ _ _ _ (by omega) (by omega) (by omega) (by omega) (by omega) (by omega) htb hs' (beq_eq_false_iff_ne.mpr hc) (Lib.hid K)

theorem door_met (os : Os) (args : Array Value) : laidMetH Tryd.prog Rows.fnNamesRow.laid ((World.doorLaid Tryd.prog 400 os).forCall (fun _ _ => 0) ⟨#[], args, []⟩).memory :=
  laidMetH_of_parts3 (fuel := 8) (laidMet_of_run' 8 (by kernel_rfl) (by kernel_rfl)) (by kernel_rfl) (by kernel_rfl)
theorem n_vars {H : Type} {enc : TypeId × Value → H} {P : Program} {w : World} {sp : Nat → Bool} {n1 n2 n3 n4 n5 n6 n7 n8 : String} {gs : List (DataW H)} {ps : List MemPlace} (h : DataW.TrodVars enc P w sp [n1, n2, n3, n4, n5, n6, n7, n8] gs ps) : ∃ g1 g2 g3 g4 g5 g6 g7 g8, gs = [g1, g2, g3, g4, g5, g6, g7, g8] := by
  match gs, h with
  | [], h => exact h.elim
  | [a1], ⟨_, _, _, _, _, _, _, _, _, _, h, _⟩ => exact h.elim
  | [a1, a2], ⟨_, _, _, _, _, _, _, _, _, _, ⟨_, _, _, _, _, _, _, _, _, _, h, _⟩, _⟩ => exact h.elim
  | [a1, a2, a3], ⟨_, _, _, _, _, _, _, _, _, _, ⟨_, _, _, _, _, _, _, _, _, _, ⟨_, _, _, _, _, _, _, _, _, _, h, _⟩, _⟩, _⟩ => exact h.elim
  | [a1, a2, a3, a4], ⟨_, _, _, _, _, _, _, _, _, _, ⟨_, _, _, _, _, _, _, _, _, _, ⟨_, _, _, _, _, _, _, _, _, _, ⟨_, _, _, _, _, _, _, _, _, _, h, _⟩, _⟩, _⟩, _⟩ => exact h.elim
  | [a1, a2, a3, a4, a5], ⟨_, _, _, _, _, _, _, _, _, _, ⟨_, _, _, _, _, _, _, _, _, _, ⟨_, _, _, _, _, _, _, _, _, _, ⟨_, _, _, _, _, _, _, _, _, _, ⟨_, _, _, _, _, _, _, _, _, _, h, _⟩, _⟩, _⟩, _⟩, _⟩ => exact h.elim
  | [a1, a2, a3, a4, a5, a6], ⟨_, _, _, _, _, _, _, _, _, _, ⟨_, _, _, _, _, _, _, _, _, _, ⟨_, _, _, _, _, _, _, _, _, _, ⟨_, _, _, _, _, _, _, _, _, _, ⟨_, _, _, _, _, _, _, _, _, _, ⟨_, _, _, _, _, _, _, _, _, _, h, _⟩, _⟩, _⟩, _⟩, _⟩, _⟩ => exact h.elim
  | [a1, a2, a3, a4, a5, a6, a7], ⟨_, _, _, _, _, _, _, _, _, _, ⟨_, _, _, _, _, _, _, _, _, _, ⟨_, _, _, _, _, _, _, _, _, _, ⟨_, _, _, _, _, _, _, _, _, _, ⟨_, _, _, _, _, _, _, _, _, _, ⟨_, _, _, _, _, _, _, _, _, _, ⟨_, _, _, _, _, _, _, _, _, _, h, _⟩, _⟩, _⟩, _⟩, _⟩, _⟩, _⟩ => exact h.elim
  | [a1, a2, a3, a4, a5, a6, a7, a8], _ => exact ⟨a1, a2, a3, a4, a5, a6, a7, a8, rfl⟩
  | a1 :: a2 :: a3 :: a4 :: a5 :: a6 :: a7 :: a8 :: b :: r, ⟨_, _, _, _, _, _, _, _, _, _, ⟨_, _, _, _, _, _, _, _, _, _, ⟨_, _, _, _, _, _, _, _, _, _, ⟨_, _, _, _, _, _, _, _, _, _, ⟨_, _, _, _, _, _, _, _, _, _, ⟨_, _, _, _, _, _, _, _, _, _, ⟨_, _, _, _, _, _, _, _, _, _, ⟨_, _, _, _, _, _, _, _, _, _, h, _⟩, _⟩, _⟩, _⟩, _⟩, _⟩, _⟩, _⟩ => exact h.elim
/-! ### THE ROW's STEP: WRITTEN OUT: LEAVE IT -/
set_option maxRecDepth 100000 in
theorem lifted (os : Os) (started : os.Started) (H : Type) (enc : TypeId × Value → H) :
    ReturnsInHanded {} Tryd.checked os 3 .any (fun w args => (Rows.fnNamesSpec.pre enc Tryd.prog Tryd.f3 [] false w args ∧ laidMetH Tryd.prog Rows.fnNamesRow.laid w) ∧ sizedMet enc Tryd.prog Tryd.f3 (OpenSpec.ofChange Rows.fnNamesSpec) false w args)
      (Rows.fnNamesSpec.post enc Tryd.prog Tryd.f3 false true false false) := by
  refine returnsInHanded_of_change_and (C := Tryd.checked) (X := fun w _ => laidMetH Tryd.prog Rows.fnNamesRow.laid w) (fun _ _ _ hh h => h.of_heap hh) own started (by kernel_rfl) Tryd.func3
    (ChangeSpec.witness_shaped (enc := enc) (C := Tryd.checked) (os := os) (X := fun w _ => laidMetH Tryd.prog Rows.fnNamesRow.laid w) false (World.doorLaid Tryd.prog 400 os) #[.slice none 0 0, .slice none 0 0] 8 rfl (World.shaped_of_RefB (by kernel_rfl) (by kernel_rfl)) (by kernel_rfl) (by kernel_rfl) (by kernel_rfl) (door_met os _)) ?_
  intro W base args ds gs before hval0 hW _ _ hL _
  have hval : ∀ (j : Nat) t v, Tryd.f3.params[j]? = some t → args[j]? = some v → Value.okWide Tryd.prog W .any base t v := hval0
  have hW' := hW
  obtain ⟨p, q, hA0, hV, rfl, hfz, hnd⟩ := hW
  have hA : DataW.TrodAll enc Tryd.prog W 0 (fun _ => true) true Tryd.f3.params.toList args.toList ds p := hA0
  rw [Tryd.params3] at hA hval
  obtain ⟨v0, vs0, d0, ds0, p0, q0, hargs, rfl, rfl, h0, r0⟩ := trodAll_cons hA
  obtain ⟨v1, vs1, d1, ds1, p1, q1, rfl, rfl, rfl, h1, r1⟩ := trodAll_cons r0
  obtain ⟨rfl, rfl, rfl⟩ := trodAll_nil r1
  obtain rfl : args = #[v0, v1] := by cases args; simp_all
  obtain ⟨g1, g2, g3, g4, g5, g6, g7, g8, rfl⟩ : ∃ g1 g2 g3 g4 g5 g6 g7 g8, gs = [g1, g2, g3, g4, g5, g6, g7, g8] := n_vars hV
  obtain ⟨a0, len0, cap0, rfl⟩ := okWide_slice Tryd.underlying22 (hval 0 22 v0 rfl rfl)
  have k0 := h0
  have lt0 : ∀ x ∈ p0, x.block < W.heap.size := by obtain ⟨m, hm⟩ := k0; exact DataW.trod_lt m _ _ _ hm
  obtain ⟨z0, w0⟩ : ∃ zs, IsRow .u8 W a0 len0 cap0 zs := by
    obtain ⟨fuel, hf⟩ := h0
    rcases open_ints Tryd.underlying22 Tryd.underlying5 (by kernel_rfl) hf with ⟨hcs, _⟩ | ⟨x, l, c, zs, hcs, _, hl, hm, hz, _, hcell, hwz⟩
    · simp [Value.cells] at hcs
      obtain ⟨rfl, rfl, rfl⟩ := hcs
      exact ⟨[], .inl ⟨rfl, rfl, rfl, rfl⟩⟩
    · simp [Value.cells] at hcs
      obtain ⟨rfl, rfl, rfl⟩ := hcs
      exact ⟨zs, .inr ⟨_, rfl, hl, hm, by simpa using hz, hcell, hwz⟩⟩
  obtain ⟨a1, len1, cap1, rfl⟩ := okWide_slice Tryd.underlying22 (hval 1 22 v1 rfl rfl)
  have k1 := h1
  have lt1 : ∀ x ∈ p1, x.block < W.heap.size := by obtain ⟨m, hm⟩ := k1; exact DataW.trod_lt m _ _ _ hm
  obtain ⟨z1, w1⟩ : ∃ zs, IsRow .u8 W a1 len1 cap1 zs := by
    obtain ⟨fuel, hf⟩ := h1
    rcases open_ints Tryd.underlying22 Tryd.underlying5 (by kernel_rfl) hf with ⟨hcs, _⟩ | ⟨x, l, c, zs, hcs, _, hl, hm, hz, _, hcell, hwz⟩
    · simp [Value.cells] at hcs
      obtain ⟨rfl, rfl, rfl⟩ := hcs
      exact ⟨[], .inl ⟨rfl, rfl, rfl, rfl⟩⟩
    · simp [Value.cells] at hcs
      obtain ⟨rfl, rfl, rfl⟩ := hcs
      exact ⟨zs, .inr ⟨_, rfl, hl, hm, by simpa using hz, hcell, hwz⟩⟩
  clear hA0 hval0
  refine (walk a0 len0 cap0 z0 a1 len1 cap1 z1 W w0 w1 hL).mono fun e W' ⟨he, hg⟩ => ?_
  subst he
  exact ⟨_, rfl, _, _, _, [], _, _, hW', trodAll_mk1 (shut_bool Tryd.underlying4 _), (trodAll_cons_mk (Below.trod laidOut (by kernel_rfl) (of_decide_eq_true (by kernel_rfl)) k0 hg lt0) (trodAll_cons_mk (Below.trod laidOut (by kernel_rfl) (of_decide_eq_true (by kernel_rfl)) k1 hg lt1) trodAll_mk0)), Below.trodVars laidOut hg (by kernel_rfl) hV, hg.frame _, fun h => by cases h⟩

theorem over : Rows.fnNamesRow.holds Tryd.pinned (OpenSpec.ofChange Rows.fnNamesSpec) :=
  OpenClaim.holds_of_wide 3 Tryd.f3 rfl rfl rfl rfl rfl rfl rfl ⟨rfl, rfl, rfl, rfl, rfl⟩ rfl rfl rfl rfl rfl (by kernel_rfl) Tryd.func3 (by kernel_rfl)
    (of_decide_eq_true (by kernel_rfl)) (by unfold Func.isWrapper; first | (rw [if_pos (by decide +kernel)]; kernel_rfl) | (rw [if_neg (by decide +kernel)]; exact ⟨rfl, rfl⟩))
    (fun os started H enc _ => lifted os started H enc)

theorem plain (f : FuncId) (fn : Func) (hf : Tryd.pinned.checked.prog.funcNamed "loop.example/g00664/laws.FnNames" = some f) (hfn : Tryd.pinned.checked.prog.funcs[f]? = some fn) :
    false = Tryd.pinned.checked.prog.looks [] ∧ ∀ (j : Nat) t, fn.params[j]? = some t → Tryd.pinned.checked.prog.wantsStandIn t = false := by
  obtain rfl : f = 3 := Option.some.inj ((show Tryd.prog.funcNamed "loop.example/g00664/laws.FnNames" = some 3 by kernel_rfl).symm.trans hf) |>.symm
  obtain rfl : fn = Tryd.f3 := (Option.some.inj (Tryd.func3.symm.trans hfn)).symm
  refine ⟨by kernel_rfl, fun j t ht => ?_⟩
  rw [Tryd.params3] at ht
  have hm := Array.mem_of_getElem? ht
  simp only [List.mem_toArray, List.mem_cons, List.not_mem_nil, or_false] at hm
  rcases hm with rfl | rfl
  · exact (show Tryd.prog.wantsStandIn 22 = false by kernel_rfl)
  · exact (show Tryd.prog.wantsStandIn 22 = false by kernel_rfl)
/-- THE CARD -/
theorem card : Rows.FnNamesCardSaid :=
  Claim7.holds_tied_plain_at .later [] _ _ _ _ over (fun _ h => by cases h) (by kernel_rfl) (fun _ h => by cases h) fnNames_row_tie rfl ⟨rfl, rfl⟩ (by kernel_rfl) rfl plain (by kernel_rfl)
#print axioms card
end Go.Proofs.YtdfmchknpiodkaaDoor.fnNames
