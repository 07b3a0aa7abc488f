/-
  Proved: for every two slices of bytes, laws.FnRegs returns true (what is set in a register is got, four bytes clear the upper half, fewer leave all other bits); condition: the tables of registers' names hold what the program's text lays there, which the card ties to that text.
-/
import Derived.Test.YtbcbepdfijcbmaaDoorCards
import Derived.Test.YtbcbepdfijcbmaaDoorTie
import Derived.LaidMore
import Derived.Stop.Joined
import Derived.OpenVars
import Derived.WalkKit
import Derived.ProofKit
import Derived.OpenShut
import Derived.ShutString
import Derived.Test.YtbcbepdfijcbmaaDoorWalkFr
import Derived.Test.YtbcbepdfijcbmaaDoorWalkCpuE
import Derived.Test.YtbcbepdfijcbmaaDoorLawSize
import Derived.Deep.WholeRow
import Derived.Deep.QuietTactic
import Derived.BigQuiet
import Derived.Deep.Cut
import Derived.ChangeOld
import Derived.Below
namespace Go.Proofs.YtbcbepdfijcbmaaDoor.fnRegs
open Go.ChangeShapes Go.WideShapes Go.ChangeAt Go.RowKit
open Go.ChangeMaps (open_string shut_string)
set_option linter.unusedVariables false

theorem own : ownKnob Tryd.prog.godebug = none := by kernel_rfl
theorem laidOut : laidOutB Tryd.prog = true := by kernel_rfl

/-- WHAT THE WALK IS TOLD OF A SLICE OF INTEGERS THAT CAME IN: it is nil; or it leads to a row of 'cap' cells, the numbers 'zs' (the first 'len' are its elements, the rest its spare room), each fitting its kind. -/
def IsRow (k : IntKind) (w : World) (a : Option Addr) (len cap : Nat) (zs : List Int) : Prop :=
  (a = none ∧ len = 0 ∧ cap = 0 ∧ zs = []) ∨
  ∃ x, a = some x ∧ len ≤ cap ∧ cap ≤ maxLen ∧ zs.length = cap ∧ (∀ i, i < zs.length → w.cell? (x.add i) = some (.int k (zs.getD i 0))) ∧ ∀ n ∈ zs, (Lit.int k n).wf = true

/-- a load of a struct that a guard lets through -/
theorem load_rowGd {P : Program} {ops : Array Oper} {rest : List Oper} {o : Oper} {a : Act} {w : World} {Q : Exit → Act → World → Prop} (hw : Region.wanted o (yielded ops a.tmps) = true) (ty : TypeId) (x : Operand) (ho : o.op = .load ty x)
    (g : Nat) (hx : a.eval x = .pointer (some ⟨g, 0, none⟩)) (t : TypeId) (cs : Array Value) (fr : Nat × Nat) (d : TypeDesc) (hg : w.heap[g]? = some (.cells cs t fr))
    (hu : P.underlying ty = some d) (hd : (match d with | .struct _ | .array _ _ => true | _ => false) = true) (hi : (P.info? ty).map (·.size) = some cs.size)
    (h : wpList P ops Q rest (a.put o.dst (.agg cs)) w) : wpList P ops Q (o :: rest) a w :=
  wpList_step fun K hK => by rw [if_pos hw]; exact wp_load_row ty x ho g hx t cs fr d hg hu hd hi (hK _ _ h)
theorem rdb_of_row {w : World} {a : Option Addr} {len cap : Nat} {zs : List Int} (h : IsRow .u8 w a len cap zs) : Rdb w w.heap.size a len := by
  intro hl
  rcases h with ⟨_, h0, _, _⟩ | ⟨x, rfl, hlc, hm, hz, hc, hwf⟩
  · omega
  · obtain ⟨b, off, rfl, hcell⟩ := ints_at hc (by omega)
    refine ⟨b, off, rfl, ?_, fun j hj => ⟨_, hcell j (by omega), ?_⟩⟩
    · have h0 := hcell 0 (by omega)
      rcases Nat.lt_or_ge b w.heap.size with h | h
      · exact h
      · simp [World.cell?, Array.getElem?_eq_none h] at h0
    · have hj' : j < zs.length := by omega
      have := bounds_u8 (hwf zs[j] (List.getElem_mem hj'))
      simp [List.getElem?_eq_getElem hj']; omega
set_option maxRecDepth 100000 in
set_option maxHeartbeats 16000000 in
theorem walk (a0 : Option Addr) (len0 cap0 : Nat) (z0 : List Int) (a1 : Option Addr) (len1 cap1 : Nat) (z1 : List Int) (w : World) (w0 : IsRow .u8 w a0 len0 cap0 z0) (w1 : IsRow .u8 w a1 len1 cap1 z1) (hL : laidMetH Tryd.prog Rows.fnRegsRow.laid w) :
    Calls Tryd.prog 6 #[.slice a0 len0 cap0, .slice a1 len1 cap1] w fun e w' => e = .returned (.bool true) ∧ Below w.heap.size w w' := by
  have hn : Regs w := ⟨met_byteNames (q := Rows.fnRegsRow.laid) (by kernel_rfl) hL, met_wordNames (q := Rows.fnRegsRow.laid) (by kernel_rfl) hL, met_dwordNames (q := Rows.fnRegsRow.laid) (by kernel_rfl) hL, met_qwordNames (q := Rows.fnRegsRow.laid) (by kernel_rfl) hL⟩
  clear hL
  have hr0 := rdb_of_row w0
  have hr1 := rdb_of_row w1
  clear w0 w1
  by_cases hb0 : (1048576 : Int) < len0
  · go_enter Tryd.func6, Tryd.ntmps6
    go_wp2
    go_ret
    exact ⟨rfl, Below.refl _ _⟩
  by_cases hb1 : (1048576 : Int) < len1
  · go_enter Tryd.func6, Tryd.ntmps6
    go_wp2
    go_ret
    exact ⟨rfl, Below.refl _ _⟩
  have R0 := Lib.hid hr0
  have R1 := Lib.hid hr1
  have HN := Lib.hid hn
  clear hr0 hr1 hn
  have I18 := Lib.hid (show (Tryd.prog.info? 27).map (·.size) = some 18 by kernel_rfl)
  go_enter Tryd.func6, Tryd.ntmps6
  go_wp2_with fail
  refine (cpuDrawn len0 cap0 a0 _ (by omega) R0.out).mono ?_
  rintro e wa ⟨c, hc, hf, rfl, hba⟩
  have HC := Lib.hid hc; have HF := Lib.hid hf
  have Na := Lib.hid (heap_alloc_new wa (.cells #[.int .i64 0, .int .i64 0, .int .i64 0, .int .i64 0, .int .i64 0, .int .i64 0, .int .i64 0, .int .i64 0, .int .i64 0, .int .i64 0, .int .i64 0, .int .i64 0, .int .i64 0, .int .i64 0, .int .i64 0, .int .i64 0, .int .i64 0, .int .i64 0] 27))
  have Ea := Lib.hid (World.setRow_alloc_new wa #[.int .i64 0, .int .i64 0, .int .i64 0, .int .i64 0, .int .i64 0, .int .i64 0, .int .i64 0, .int .i64 0, .int .i64 0, .int .i64 0, .int .i64 0, .int .i64 0, .int .i64 0, .int .i64 0, .int .i64 0, .int .i64 0, .int .i64 0, .int .i64 0] (cpV c) 27)
  have P5 := Lib.hid (heap_alloc_new wa (.cells (cpV c) 27))
  have Bb := Lib.hid (hba.alloc hba.size (.cells (cpV c) 27))
  have HV := Lib.hid (cpV_at c)
  have HS := Lib.hid (cpV_size c)
  have hO := Lib.hid (cpV_one c)
  have HFa := Lib.hid fun (v n r : Int) hv h => regs_facts c v n r hc hf hv h w HN.out
  clear hc hf hba
  have HNq : Hid (∀ q : Cp, cpV q = cpV q) := Lib.hid fun _ => rfl
  go_upto_region 4 with ((refine wpList_store_row rfl 27 (.tmp 5) (.tmp 32) rfl wa.heap.size (cpV c) rfl rfl 27 _ Na.out (by rw [HS.out]; exact I18.out) (by rw [HS.out]; rfl) hO.out ?_; rw [Ea.out]; generalize wa.alloc (.cells (cpV c) 27) = wb at *))
  clear Na Ea
  generalize wa.heap.size = b5 at *
  go_wp2_with fail
  refine (numberOf len1 cap1 a1 _ (by omega) ((R1.out.below Bb.out).more Bb.out.size)).mono ?_
  rintro e wc ⟨v, hv, rfl, hbc⟩
  have Bc := Lib.hid (Bb.out.trans (hbc.mono Bb.out.size))
  have P5c := Lib.hid ((hbc.block _ (lt_of_blk' P5.out)).trans P5.out)
  have HVv := Lib.hid hv
  have CSZ := Lib.hid (show Calls Tryd.prog 20 #[.slice a1 len1 cap1, .int .i64 0] wc (SizeOut wc) from lawSizeAt 0 len1 cap1 a1 wc ((R1.out.below Bc.out).more Bc.out.size) (by omega) (by omega))
  clear hbc hv P5 Bb
  go_wp2_with fail
  refine (CSZ.out).mono ?_
  rintro e wd ⟨size, hok, rfl, hbd⟩
  have Bd := Lib.hid (Bc.out.trans (hbd.mono Bc.out.size))
  have P5d := Lib.hid ((hbd.block _ (lt_of_blk' P5c.out)).trans P5c.out)
  have HOK := Lib.hid hok
  have CAT := Lib.hid (show Calls Tryd.prog 21 #[.slice a1 len1 cap1, .int .i64 1, .int .i64 16] wd (IntIn 0 15 wd.heap.size wd) from lawAt 1 16 len1 cap1 a1 wd ((R1.out.below Bd.out).more Bd.out.size) (by omega) (by omega) (by omega) (by omega))
  clear hbd hok P5c Bc CSZ
  generalize (size : Int) = n at *
  go_wp2_with fail
  refine (CAT.out).mono ?_
  rintro e we ⟨r, hr0, hr1, rfl, hbe⟩
  have Be := Lib.hid (Bd.out.trans (hbe.mono Bd.out.size))
  have P5e := Lib.hid ((hbe.block _ (lt_of_blk' P5d.out)).trans P5d.out)
  clear hbe P5d Bd CAT
  have HV1 := HVv.out
  by_cases h1 : n = 1
  · subst h1
    have CH := Lib.hid (show Calls Tryd.prog 21 #[.slice a1 len1 cap1, .int .i64 2, .int .i64 3] we (IntIn 0 2 we.heap.size we) from lawAt 2 3 len1 cap1 a1 we ((R1.out.below Be.out).more Be.out.size) (by omega) (by omega) (by omega) (by omega))
    go_wp2_with fail
    refine (CH.out).mono ?_
    rintro e wz ⟨q, hq0, hq1, rfl, hbf⟩
    have Bf := Lib.hid (Be.out.trans (hbf.mono Be.out.size))
    have P5f := Lib.hid ((hbf.block _ (lt_of_blk' P5e.out)).trans P5e.out)
    clear hbf P5e Be CH
    by_cases h2 : q = 0
    · have CG := Lib.hid (show Calls Tryd.prog 21 #[.slice a1 len1 cap1, .int .i64 3, .int .i64 4] wz (IntIn 0 3 wz.heap.size wz) from lawAt 3 4 len1 cap1 a1 wz ((R1.out.below Bf.out).more Bf.out.size) (by omega) (by omega) (by omega) (by omega))
      go_wp2_with fail
      refine (CG.out).mono ?_
      rintro e wy ⟨s, hs0, hs1, rfl, hbg⟩
      have Bz := Lib.hid (Bf.out.trans (hbg.mono Bf.out.size))
      have P5z := Lib.hid ((hbg.block _ (lt_of_blk' P5f.out)).trans P5f.out)
      clear hbg P5f Bf CG
      have ew : wrap64 (16 + s) = 16 + s := by unfold wrap64; omega
      have hr : okSize 1 ∧ 0 ≤ 16 + s ∧ 16 + s ≤ topReg 1 := ⟨HOK.out, by omega, by unfold topReg; rw [if_pos rfl]; omega⟩
      go_upto_region 9 with fail
      clear ew hr0 hr1 hq0 hq1 h2
      generalize 16 + s = rr at *
      clear hs0 hs1
      generalize wy = wx at *
      obtain ⟨d, k, F⟩ := HFa.out v 1 rr HVv.out hr
      have C1 := Lib.hid F.c1; have C2 := Lib.hid F.c2; have C3 := Lib.hid F.c3; have C4 := Lib.hid F.c4; have C5 := Lib.hid F.c5
      have hkr := F.kr; have k16 := F.k16
      have FAR := Lib.hid F.far; have F4 := Lib.hid F.f4; have M1 := Lib.hid F.m1; have M2 := Lib.hid F.m2; have MH := Lib.hid F.mh
      have hNE := neqCpu d
      have HW := Lib.hid (cpV_at d); have HSD := Lib.hid (cpV_size d); have hOD := Lib.hid (cpV_one d)
      have GB := Lib.hid (show 0 ≤ zeroN v 1 ∧ zeroN v 1 ≤ 255 from by unfold zeroN; simp; omega)
      have HR := Lib.hid hr
      clear F hr HFa HVv HV1 HC HF HN HNq R0 R1 HOK
      generalize zeroN v 1 = g at *
      generalize cpV c = V at *
      generalize cpV d = D at *
      have NE := Lib.hid hNE
      clear hNE
      go_wp2_with (refine wpList_load_row rfl 27 (.tmp 5) rfl b5 rfl 27 V (0, 0) _ P5z.out Tryd.underlying27 rfl (by rw [HS.out]; exact I18.out) ?_)
      refine (C1.out _ Bz.out).mono ?_
      rintro e w1 ⟨rfl, hb1⟩
      have B1 := Lib.hid (Bz.out.trans (hb1.mono Bz.out.size))
      have P51 := Lib.hid ((hb1.block _ (lt_of_blk' P5z.out)).trans P5z.out)
      clear hb1 Bz P5z C1
      have N1 := Lib.hid (heap_alloc_new w1 (.cells #[.int .i64 0, .int .i64 0, .int .i64 0, .int .i64 0, .int .i64 0, .int .i64 0, .int .i64 0, .int .i64 0, .int .i64 0, .int .i64 0, .int .i64 0, .int .i64 0, .int .i64 0, .int .i64 0, .int .i64 0, .int .i64 0, .int .i64 0, .int .i64 0] 27))
      have E1 := Lib.hid (World.setRow_alloc_new w1 #[.int .i64 0, .int .i64 0, .int .i64 0, .int .i64 0, .int .i64 0, .int .i64 0, .int .i64 0, .int .i64 0, .int .i64 0, .int .i64 0, .int .i64 0, .int .i64 0, .int .i64 0, .int .i64 0, .int .i64 0, .int .i64 0, .int .i64 0, .int .i64 0] D 27)
      have P9 := Lib.hid (heap_alloc_new w1 (.cells D 27))
      have B2 := Lib.hid (B1.out.alloc B1.out.size (.cells D 27))
      have P52 := Lib.hid ((Below.heap_alloc w1 (.cells D 27) _ (lt_of_blk' P51.out)).trans P51.out)
      go_upto_region 10 with ((refine wpList_store_row rfl 27 (.tmp 9) (.tmp 55) rfl w1.heap.size D rfl rfl 27 _ N1.out (by rw [HSD.out]; exact I18.out) (by rw [HSD.out]; rfl) hOD.out ?_; rw [E1.out]; generalize w1.alloc (.cells D 27) = w2 at *))
      clear N1 E1 B1 P51
      generalize w1.heap.size = b9 at *
      go_wp2_with (refine wpList_load_row rfl 27 (.tmp 5) rfl b5 rfl 27 V (0, 0) _ P52.out Tryd.underlying27 rfl (by rw [HS.out]; exact I18.out) ?_)
      refine (C2.out _).mono ?_
      rintro e w3 ⟨rfl, hb3⟩
      have B3 := Lib.hid (B2.out.trans (hb3.mono B2.out.size))
      have P53 := Lib.hid ((hb3.block _ (lt_of_blk' P52.out)).trans P52.out)
      have P93 := Lib.hid ((hb3.block _ (lt_of_blk' P9.out)).trans P9.out)
      clear hb3 B2 P52 P9 C2
      have N3 := Lib.hid (heap_alloc_new w3 (.cells #[.int .i64 0, .int .i64 0, .int .i64 0, .int .i64 0, .int .i64 0, .int .i64 0, .int .i64 0, .int .i64 0, .int .i64 0, .int .i64 0, .int .i64 0, .int .i64 0, .int .i64 0, .int .i64 0, .int .i64 0, .int .i64 0, .int .i64 0, .int .i64 0] 27))
      have E3 := Lib.hid (World.setRow_alloc_new w3 #[.int .i64 0, .int .i64 0, .int .i64 0, .int .i64 0, .int .i64 0, .int .i64 0, .int .i64 0, .int .i64 0, .int .i64 0, .int .i64 0, .int .i64 0, .int .i64 0, .int .i64 0, .int .i64 0, .int .i64 0, .int .i64 0, .int .i64 0, .int .i64 0] D 27)
      have PB := Lib.hid (heap_alloc_new w3 (.cells D 27))
      have B4 := Lib.hid (B3.out.alloc B3.out.size (.cells D 27))
      have P54 := Lib.hid ((Below.heap_alloc w3 (.cells D 27) _ (lt_of_blk' P53.out)).trans P53.out)
      have P94 := Lib.hid ((Below.heap_alloc w3 (.cells D 27) _ (lt_of_blk' P93.out)).trans P93.out)
      go_upto_region 11 with ((refine wpList_store_row rfl 27 (.tmp 11) (.tmp 63) rfl w3.heap.size D rfl rfl 27 _ N3.out (by rw [HSD.out]; exact I18.out) (by rw [HSD.out]; rfl) hOD.out ?_; rw [E3.out]; generalize w3.alloc (.cells D 27) = w4 at *))
      clear N3 E3 B3 P53 P93
      generalize w3.heap.size = bb at *
      go_wp2_with (refine wpList_load_row rfl 27 (.tmp 9) rfl b9 rfl 27 D (0, 0) _ P94.out Tryd.underlying27 rfl (by rw [HSD.out]; exact I18.out) ?_)
      refine (C3.out _ B4.out).mono ?_
      rintro e w5 ⟨rfl, hb5⟩
      have B5 := Lib.hid (B4.out.trans (hb5.mono B4.out.size))
      have P55 := Lib.hid ((hb5.block _ (lt_of_blk' P54.out)).trans P54.out)
      have P95 := Lib.hid ((hb5.block _ (lt_of_blk' P94.out)).trans P94.out)
      have PB5 := Lib.hid ((hb5.block _ (lt_of_blk' PB.out)).trans PB.out)
      clear hb5 B4 P54 P94 PB C3
      go_wp2_with fail
      refine (C4.out _).mono ?_
      rintro e w6 ⟨rfl, hb6⟩
      have B6 := Lib.hid (B5.out.trans (hb6.mono B5.out.size))
      have P56 := Lib.hid ((hb6.block _ (lt_of_blk' P55.out)).trans P55.out)
      have P96 := Lib.hid ((hb6.block _ (lt_of_blk' P95.out)).trans P95.out)
      have PB6 := Lib.hid ((hb6.block _ (lt_of_blk' PB5.out)).trans PB5.out)
      clear hb6 B5 P55 P95 PB5 C4
      have hNE := NE.out
      go_wp2_with (first | (refine wpList_load_row rfl 27 (.tmp 9) rfl b9 rfl 27 D (0, 0) _ P96.out Tryd.underlying27 rfl (by rw [HSD.out]; exact I18.out) ?_) | (refine load_rowGd (by rfl) 27 (.tmp 9) rfl b9 rfl 27 D (0, 0) _ P96.out Tryd.underlying27 rfl (by rw [HSD.out]; exact I18.out) ?_) | (refine load_rowGd (by rfl) 27 (.tmp 11) rfl bb rfl 27 D (0, 0) _ PB6.out Tryd.underlying27 rfl (by rw [HSD.out]; exact I18.out) ?_))
      clear hNE NE PB6
      refine (C5.out _ B6.out).mono ?_
      rintro e w7 ⟨rfl, hb7⟩
      have B7 := Lib.hid (B6.out.trans (hb7.mono B6.out.size))
      have P57 := Lib.hid ((hb7.block _ (lt_of_blk' P56.out)).trans P56.out)
      have P97 := Lib.hid ((hb7.block _ (lt_of_blk' P96.out)).trans P96.out)
      clear hb7 B6 P56 P96 C5
      have CK := (cell_of_row _ _ k _ _ _ P57.out).trans (HV.out k k16)
      have k0 : (0 : Int) ≤ (k : Int) := by omega
      have k1 : (k : Int) < 16 := by omega
      have k2 : ((k : Int)).toNat = k := by omega
      go_upto_region 19 with fail
      clear CK
      have L5 := Lib.hid P57.out
      have L9 := Lib.hid P97.out
      have LB := Lib.hid B7.out
      clear P57 P97 B7
      go_wp2_with fail
      go_loopw [20] (fun i wr => ∃ (j : Nat), j ≤ 16 ∧ i = .int .i64 j ∧ Hid (wr.heap[b5]? = some (.cells V 27 (0, 0))) ∧ Hid (wr.heap[b9]? = some (.cells D 27 (0, 0))) ∧ Hid (Below w.heap.size w wr)) (fun i _ => 16 - (intOf i).toNat)
      case atStart => exact ⟨0, by omega, rfl, L5, L9, LB⟩
      case round =>
        obtain ⟨j, hj, rfl, H1, H2, HB⟩ := hrel
        by_cases hlt : j < 16
        · have c1 := (cell_of_row _ _ j _ _ _ H1.out).trans (HV.out j hlt)
          have c2 := (cell_of_row _ _ j _ _ _ H2.out).trans (HW.out j hlt)
          have hi0 : (0 : Int) ≤ (j : Int) := by omega
          have hi1 : (j : Int) < 16 := by omega
          have hk' : ((j : Int)).toNat = j := by omega
          by_cases hjk : j = k
          · subst hjk
            clear c1 c2
            go_wp2_with fail
            go_quiet (fail)
            go_wp2
            go_roundw
            case rel => exact ⟨j + 1, by omega, by go_num, Lib.hid (by simpa using H1.out), Lib.hid (by simpa using H2.out), Lib.hid (HB.out.trans ⟨rfl, rfl, rfl, Nat.le_refl _, fun _ _ => rfl⟩)⟩
            case measure => simp [intOf]; omega
          · have hjk' : ¬ ((j : Int) = (k : Int)) := by omega
            rw [FAR.out j hlt hjk] at c2
            go_wp2_with fail
            go_quiet (fail)
            go_wp2
            go_roundw
            case rel => exact ⟨j + 1, by omega, by go_num, Lib.hid (by simpa using H1.out), Lib.hid (by simpa using H2.out), Lib.hid (HB.out.trans ⟨rfl, rfl, rfl, Nat.le_refl _, fun _ _ => rfl⟩)⟩
            case measure => simp [intOf]; omega
        · obtain rfl : j = 16 := by omega
          have g0 := GB.out.1
          have g1 := GB.out.2
          by_cases hrr : 16 ≤ rr
          · obtain ⟨m1, m2⟩ := MH.out (by first | rfl | trivial) hrr
            go_wp2
            go_ret
            exact ⟨rfl, HB.out⟩
          · obtain ⟨m1, m2⟩ := M1.out (by first | rfl | trivial) (by omega)
            go_wp2
            go_ret
            exact ⟨rfl, HB.out⟩
    · have hr : okSize 1 ∧ 0 ≤ r ∧ r ≤ topReg 1 := ⟨HOK.out, by omega, by unfold topReg; rw [if_pos rfl]; omega⟩
      go_upto_region 9 with fail
      have Bz := Lib.hid Bf.out
      have P5z := Lib.hid P5f.out
      clear hr0 hr1 hq0 hq1 h2 Bf P5f
      generalize r = rr at *
      generalize wz = wx at *
      obtain ⟨d, k, F⟩ := HFa.out v 1 rr HVv.out hr
      have C1 := Lib.hid F.c1; have C2 := Lib.hid F.c2; have C3 := Lib.hid F.c3; have C4 := Lib.hid F.c4; have C5 := Lib.hid F.c5
      have hkr := F.kr; have k16 := F.k16
      have FAR := Lib.hid F.far; have F4 := Lib.hid F.f4; have M1 := Lib.hid F.m1; have M2 := Lib.hid F.m2; have MH := Lib.hid F.mh
      have hNE := neqCpu d
      have HW := Lib.hid (cpV_at d); have HSD := Lib.hid (cpV_size d); have hOD := Lib.hid (cpV_one d)
      have GB := Lib.hid (show 0 ≤ zeroN v 1 ∧ zeroN v 1 ≤ 255 from by unfold zeroN; simp; omega)
      have HR := Lib.hid hr
      clear F hr HFa HVv HV1 HC HF HN HNq R0 R1 HOK
      generalize zeroN v 1 = g at *
      generalize cpV c = V at *
      generalize cpV d = D at *
      have NE := Lib.hid hNE
      clear hNE
      go_wp2_with (refine wpList_load_row rfl 27 (.tmp 5) rfl b5 rfl 27 V (0, 0) _ P5z.out Tryd.underlying27 rfl (by rw [HS.out]; exact I18.out) ?_)
      refine (C1.out _ Bz.out).mono ?_
      rintro e w1 ⟨rfl, hb1⟩
      have B1 := Lib.hid (Bz.out.trans (hb1.mono Bz.out.size))
      have P51 := Lib.hid ((hb1.block _ (lt_of_blk' P5z.out)).trans P5z.out)
      clear hb1 Bz P5z C1
      have N1 := Lib.hid (heap_alloc_new w1 (.cells #[.int .i64 0, .int .i64 0, .int .i64 0, .int .i64 0, .int .i64 0, .int .i64 0, .int .i64 0, .int .i64 0, .int .i64 0, .int .i64 0, .int .i64 0, .int .i64 0, .int .i64 0, .int .i64 0, .int .i64 0, .int .i64 0, .int .i64 0, .int .i64 0] 27))
      have E1 := Lib.hid (World.setRow_alloc_new w1 #[.int .i64 0, .int .i64 0, .int .i64 0, .int .i64 0, .int .i64 0, .int .i64 0, .int .i64 0, .int .i64 0, .int .i64 0, .int .i64 0, .int .i64 0, .int .i64 0, .int .i64 0, .int .i64 0, .int .i64 0, .int .i64 0, .int .i64 0, .int .i64 0] D 27)
      have P9 := Lib.hid (heap_alloc_new w1 (.cells D 27))
      have B2 := Lib.hid (B1.out.alloc B1.out.size (.cells D 27))
      have P52 := Lib.hid ((Below.heap_alloc w1 (.cells D 27) _ (lt_of_blk' P51.out)).trans P51.out)
      go_upto_region 10 with ((refine wpList_store_row rfl 27 (.tmp 9) (.tmp 55) rfl w1.heap.size D rfl rfl 27 _ N1.out (by rw [HSD.out]; exact I18.out) (by rw [HSD.out]; rfl) hOD.out ?_; rw [E1.out]; generalize w1.alloc (.cells D 27) = w2 at *))
      clear N1 E1 B1 P51
      generalize w1.heap.size = b9 at *
      go_wp2_with (refine wpList_load_row rfl 27 (.tmp 5) rfl b5 rfl 27 V (0, 0) _ P52.out Tryd.underlying27 rfl (by rw [HS.out]; exact I18.out) ?_)
      refine (C2.out _).mono ?_
      rintro e w3 ⟨rfl, hb3⟩
      have B3 := Lib.hid (B2.out.trans (hb3.mono B2.out.size))
      have P53 := Lib.hid ((hb3.block _ (lt_of_blk' P52.out)).trans P52.out)
      have P93 := Lib.hid ((hb3.block _ (lt_of_blk' P9.out)).trans P9.out)
      clear hb3 B2 P52 P9 C2
      have N3 := Lib.hid (heap_alloc_new w3 (.cells #[.int .i64 0, .int .i64 0, .int .i64 0, .int .i64 0, .int .i64 0, .int .i64 0, .int .i64 0, .int .i64 0, .int .i64 0, .int .i64 0, .int .i64 0, .int .i64 0, .int .i64 0, .int .i64 0, .int .i64 0, .int .i64 0, .int .i64 0, .int .i64 0] 27))
      have E3 := Lib.hid (World.setRow_alloc_new w3 #[.int .i64 0, .int .i64 0, .int .i64 0, .int .i64 0, .int .i64 0, .int .i64 0, .int .i64 0, .int .i64 0, .int .i64 0, .int .i64 0, .int .i64 0, .int .i64 0, .int .i64 0, .int .i64 0, .int .i64 0, .int .i64 0, .int .i64 0, .int .i64 0] D 27)
      have PB := Lib.hid (heap_alloc_new w3 (.cells D 27))
      have B4 := Lib.hid (B3.out.alloc B3.out.size (.cells D 27))
      have P54 := Lib.hid ((Below.heap_alloc w3 (.cells D 27) _ (lt_of_blk' P53.out)).trans P53.out)
      have P94 := Lib.hid ((Below.heap_alloc w3 (.cells D 27) _ (lt_of_blk' P93.out)).trans P93.out)
      go_upto_region 11 with ((refine wpList_store_row rfl 27 (.tmp 11) (.tmp 63) rfl w3.heap.size D rfl rfl 27 _ N3.out (by rw [HSD.out]; exact I18.out) (by rw [HSD.out]; rfl) hOD.out ?_; rw [E3.out]; generalize w3.alloc (.cells D 27) = w4 at *))
      clear N3 E3 B3 P53 P93
      generalize w3.heap.size = bb at *
      go_wp2_with (refine wpList_load_row rfl 27 (.tmp 9) rfl b9 rfl 27 D (0, 0) _ P94.out Tryd.underlying27 rfl (by rw [HSD.out]; exact I18.out) ?_)
      refine (C3.out _ B4.out).mono ?_
      rintro e w5 ⟨rfl, hb5⟩
      have B5 := Lib.hid (B4.out.trans (hb5.mono B4.out.size))
      have P55 := Lib.hid ((hb5.block _ (lt_of_blk' P54.out)).trans P54.out)
      have P95 := Lib.hid ((hb5.block _ (lt_of_blk' P94.out)).trans P94.out)
      have PB5 := Lib.hid ((hb5.block _ (lt_of_blk' PB.out)).trans PB.out)
      clear hb5 B4 P54 P94 PB C3
      go_wp2_with fail
      refine (C4.out _).mono ?_
      rintro e w6 ⟨rfl, hb6⟩
      have B6 := Lib.hid (B5.out.trans (hb6.mono B5.out.size))
      have P56 := Lib.hid ((hb6.block _ (lt_of_blk' P55.out)).trans P55.out)
      have P96 := Lib.hid ((hb6.block _ (lt_of_blk' P95.out)).trans P95.out)
      have PB6 := Lib.hid ((hb6.block _ (lt_of_blk' PB5.out)).trans PB5.out)
      clear hb6 B5 P55 P95 PB5 C4
      have hNE := NE.out
      go_wp2_with (first | (refine wpList_load_row rfl 27 (.tmp 9) rfl b9 rfl 27 D (0, 0) _ P96.out Tryd.underlying27 rfl (by rw [HSD.out]; exact I18.out) ?_) | (refine load_rowGd (by rfl) 27 (.tmp 9) rfl b9 rfl 27 D (0, 0) _ P96.out Tryd.underlying27 rfl (by rw [HSD.out]; exact I18.out) ?_) | (refine load_rowGd (by rfl) 27 (.tmp 11) rfl bb rfl 27 D (0, 0) _ PB6.out Tryd.underlying27 rfl (by rw [HSD.out]; exact I18.out) ?_))
      clear hNE NE PB6
      refine (C5.out _ B6.out).mono ?_
      rintro e w7 ⟨rfl, hb7⟩
      have B7 := Lib.hid (B6.out.trans (hb7.mono B6.out.size))
      have P57 := Lib.hid ((hb7.block _ (lt_of_blk' P56.out)).trans P56.out)
      have P97 := Lib.hid ((hb7.block _ (lt_of_blk' P96.out)).trans P96.out)
      clear hb7 B6 P56 P96 C5
      have CK := (cell_of_row _ _ k _ _ _ P57.out).trans (HV.out k k16)
      have k0 : (0 : Int) ≤ (k : Int) := by omega
      have k1 : (k : Int) < 16 := by omega
      have k2 : ((k : Int)).toNat = k := by omega
      go_upto_region 19 with fail
      clear CK
      have L5 := Lib.hid P57.out
      have L9 := Lib.hid P97.out
      have LB := Lib.hid B7.out
      clear P57 P97 B7
      go_wp2_with fail
      go_loopw [20] (fun i wr => ∃ (j : Nat), j ≤ 16 ∧ i = .int .i64 j ∧ Hid (wr.heap[b5]? = some (.cells V 27 (0, 0))) ∧ Hid (wr.heap[b9]? = some (.cells D 27 (0, 0))) ∧ Hid (Below w.heap.size w wr)) (fun i _ => 16 - (intOf i).toNat)
      case atStart => exact ⟨0, by omega, rfl, L5, L9, LB⟩
      case round =>
        obtain ⟨j, hj, rfl, H1, H2, HB⟩ := hrel
        by_cases hlt : j < 16
        · have c1 := (cell_of_row _ _ j _ _ _ H1.out).trans (HV.out j hlt)
          have c2 := (cell_of_row _ _ j _ _ _ H2.out).trans (HW.out j hlt)
          have hi0 : (0 : Int) ≤ (j : Int) := by omega
          have hi1 : (j : Int) < 16 := by omega
          have hk' : ((j : Int)).toNat = j := by omega
          by_cases hjk : j = k
          · subst hjk
            clear c1 c2
            go_wp2_with fail
            go_quiet (fail)
            go_wp2
            go_roundw
            case rel => exact ⟨j + 1, by omega, by go_num, Lib.hid (by simpa using H1.out), Lib.hid (by simpa using H2.out), Lib.hid (HB.out.trans ⟨rfl, rfl, rfl, Nat.le_refl _, fun _ _ => rfl⟩)⟩
            case measure => simp [intOf]; omega
          · have hjk' : ¬ ((j : Int) = (k : Int)) := by omega
            rw [FAR.out j hlt hjk] at c2
            go_wp2_with fail
            go_quiet (fail)
            go_wp2
            go_roundw
            case rel => exact ⟨j + 1, by omega, by go_num, Lib.hid (by simpa using H1.out), Lib.hid (by simpa using H2.out), Lib.hid (HB.out.trans ⟨rfl, rfl, rfl, Nat.le_refl _, fun _ _ => rfl⟩)⟩
            case measure => simp [intOf]; omega
        · obtain rfl : j = 16 := by omega
          have g0 := GB.out.1
          have g1 := GB.out.2
          by_cases hrr : 16 ≤ rr
          · obtain ⟨m1, m2⟩ := MH.out (by first | rfl | trivial) hrr
            go_wp2
            go_ret
            exact ⟨rfl, HB.out⟩
          · obtain ⟨m1, m2⟩ := M1.out (by first | rfl | trivial) (by omega)
            go_wp2
            go_ret
            exact ⟨rfl, HB.out⟩
  · have hr : okSize n ∧ 0 ≤ r ∧ r ≤ topReg n := ⟨HOK.out, by omega, by unfold topReg; rw [if_neg h1]; omega⟩
    go_upto_region 9 with fail
    have Bz := Lib.hid Be.out
    have P5z := Lib.hid P5e.out
    clear hr0 hr1 Be P5e h1
    generalize r = rr at *
    generalize we = wx at *
    obtain ⟨d, k, F⟩ := HFa.out v n rr HVv.out hr
    have C1 := Lib.hid F.c1; have C2 := Lib.hid F.c2; have C3 := Lib.hid F.c3; have C4 := Lib.hid F.c4; have C5 := Lib.hid F.c5
    have hkr := F.kr; have k16 := F.k16
    have FAR := Lib.hid F.far; have F4 := Lib.hid F.f4; have M1 := Lib.hid F.m1; have M2 := Lib.hid F.m2; have MH := Lib.hid F.mh
    have hNE := neqCpu d
    have HW := Lib.hid (cpV_at d); have HSD := Lib.hid (cpV_size d); have hOD := Lib.hid (cpV_one d)
    have GB := Lib.hid (show (n = 1 → 0 ≤ zeroN v n ∧ zeroN v n ≤ 255) ∧ (n = 2 → 0 ≤ zeroN v n ∧ zeroN v n ≤ 65535) from by unfold zeroN; constructor <;> intro e <;> subst e <;> simp <;> omega)
    have HR := Lib.hid hr
    clear F hr HFa HVv HV1 HC HF HN HNq R0 R1 HOK
    generalize zeroN v n = g at *
    generalize cpV c = V at *
    generalize cpV d = D at *
    have NE := Lib.hid hNE
    clear hNE
    go_wp2_with (refine wpList_load_row rfl 27 (.tmp 5) rfl b5 rfl 27 V (0, 0) _ P5z.out Tryd.underlying27 rfl (by rw [HS.out]; exact I18.out) ?_)
    refine (C1.out _ Bz.out).mono ?_
    rintro e w1 ⟨rfl, hb1⟩
    have B1 := Lib.hid (Bz.out.trans (hb1.mono Bz.out.size))
    have P51 := Lib.hid ((hb1.block _ (lt_of_blk' P5z.out)).trans P5z.out)
    clear hb1 Bz P5z C1
    have N1 := Lib.hid (heap_alloc_new w1 (.cells #[.int .i64 0, .int .i64 0, .int .i64 0, .int .i64 0, .int .i64 0, .int .i64 0, .int .i64 0, .int .i64 0, .int .i64 0, .int .i64 0, .int .i64 0, .int .i64 0, .int .i64 0, .int .i64 0, .int .i64 0, .int .i64 0, .int .i64 0, .int .i64 0] 27))
    have E1 := Lib.hid (World.setRow_alloc_new w1 #[.int .i64 0, .int .i64 0, .int .i64 0, .int .i64 0, .int .i64 0, .int .i64 0, .int .i64 0, .int .i64 0, .int .i64 0, .int .i64 0, .int .i64 0, .int .i64 0, .int .i64 0, .int .i64 0, .int .i64 0, .int .i64 0, .int .i64 0, .int .i64 0] D 27)
    have P9 := Lib.hid (heap_alloc_new w1 (.cells D 27))
    have B2 := Lib.hid (B1.out.alloc B1.out.size (.cells D 27))
    have P52 := Lib.hid ((Below.heap_alloc w1 (.cells D 27) _ (lt_of_blk' P51.out)).trans P51.out)
    go_upto_region 10 with ((refine wpList_store_row rfl 27 (.tmp 9) (.tmp 55) rfl w1.heap.size D rfl rfl 27 _ N1.out (by rw [HSD.out]; exact I18.out) (by rw [HSD.out]; rfl) hOD.out ?_; rw [E1.out]; generalize w1.alloc (.cells D 27) = w2 at *))
    clear N1 E1 B1 P51
    generalize w1.heap.size = b9 at *
    go_wp2_with (refine wpList_load_row rfl 27 (.tmp 5) rfl b5 rfl 27 V (0, 0) _ P52.out Tryd.underlying27 rfl (by rw [HS.out]; exact I18.out) ?_)
    refine (C2.out _).mono ?_
    rintro e w3 ⟨rfl, hb3⟩
    have B3 := Lib.hid (B2.out.trans (hb3.mono B2.out.size))
    have P53 := Lib.hid ((hb3.block _ (lt_of_blk' P52.out)).trans P52.out)
    have P93 := Lib.hid ((hb3.block _ (lt_of_blk' P9.out)).trans P9.out)
    clear hb3 B2 P52 P9 C2
    have N3 := Lib.hid (heap_alloc_new w3 (.cells #[.int .i64 0, .int .i64 0, .int .i64 0, .int .i64 0, .int .i64 0, .int .i64 0, .int .i64 0, .int .i64 0, .int .i64 0, .int .i64 0, .int .i64 0, .int .i64 0, .int .i64 0, .int .i64 0, .int .i64 0, .int .i64 0, .int .i64 0, .int .i64 0] 27))
    have E3 := Lib.hid (World.setRow_alloc_new w3 #[.int .i64 0, .int .i64 0, .int .i64 0, .int .i64 0, .int .i64 0, .int .i64 0, .int .i64 0, .int .i64 0, .int .i64 0, .int .i64 0, .int .i64 0, .int .i64 0, .int .i64 0, .int .i64 0, .int .i64 0, .int .i64 0, .int .i64 0, .int .i64 0] D 27)
    have PB := Lib.hid (heap_alloc_new w3 (.cells D 27))
    have B4 := Lib.hid (B3.out.alloc B3.out.size (.cells D 27))
    have P54 := Lib.hid ((Below.heap_alloc w3 (.cells D 27) _ (lt_of_blk' P53.out)).trans P53.out)
    have P94 := Lib.hid ((Below.heap_alloc w3 (.cells D 27) _ (lt_of_blk' P93.out)).trans P93.out)
    go_upto_region 11 with ((refine wpList_store_row rfl 27 (.tmp 11) (.tmp 63) rfl w3.heap.size D rfl rfl 27 _ N3.out (by rw [HSD.out]; exact I18.out) (by rw [HSD.out]; rfl) hOD.out ?_; rw [E3.out]; generalize w3.alloc (.cells D 27) = w4 at *))
    clear N3 E3 B3 P53 P93
    generalize w3.heap.size = bb at *
    go_wp2_with (refine wpList_load_row rfl 27 (.tmp 9) rfl b9 rfl 27 D (0, 0) _ P94.out Tryd.underlying27 rfl (by rw [HSD.out]; exact I18.out) ?_)
    refine (C3.out _ B4.out).mono ?_
    rintro e w5 ⟨rfl, hb5⟩
    have B5 := Lib.hid (B4.out.trans (hb5.mono B4.out.size))
    have P55 := Lib.hid ((hb5.block _ (lt_of_blk' P54.out)).trans P54.out)
    have P95 := Lib.hid ((hb5.block _ (lt_of_blk' P94.out)).trans P94.out)
    have PB5 := Lib.hid ((hb5.block _ (lt_of_blk' PB.out)).trans PB.out)
    clear hb5 B4 P54 P94 PB C3
    go_wp2_with fail
    refine (C4.out _).mono ?_
    rintro e w6 ⟨rfl, hb6⟩
    have B6 := Lib.hid (B5.out.trans (hb6.mono B5.out.size))
    have P56 := Lib.hid ((hb6.block _ (lt_of_blk' P55.out)).trans P55.out)
    have P96 := Lib.hid ((hb6.block _ (lt_of_blk' P95.out)).trans P95.out)
    have PB6 := Lib.hid ((hb6.block _ (lt_of_blk' PB5.out)).trans PB5.out)
    clear hb6 B5 P55 P95 PB5 C4
    have hNE := NE.out
    go_wp2_with (first | (refine wpList_load_row rfl 27 (.tmp 9) rfl b9 rfl 27 D (0, 0) _ P96.out Tryd.underlying27 rfl (by rw [HSD.out]; exact I18.out) ?_) | (refine load_rowGd (by rfl) 27 (.tmp 9) rfl b9 rfl 27 D (0, 0) _ P96.out Tryd.underlying27 rfl (by rw [HSD.out]; exact I18.out) ?_) | (refine load_rowGd (by rfl) 27 (.tmp 11) rfl bb rfl 27 D (0, 0) _ PB6.out Tryd.underlying27 rfl (by rw [HSD.out]; exact I18.out) ?_))
    clear hNE NE PB6
    refine (C5.out _ B6.out).mono ?_
    rintro e w7 ⟨rfl, hb7⟩
    have B7 := Lib.hid (B6.out.trans (hb7.mono B6.out.size))
    have P57 := Lib.hid ((hb7.block _ (lt_of_blk' P56.out)).trans P56.out)
    have P97 := Lib.hid ((hb7.block _ (lt_of_blk' P96.out)).trans P96.out)
    clear hb7 B6 P56 P96 C5
    have CK := (cell_of_row _ _ k _ _ _ P57.out).trans (HV.out k k16)
    have k0 : (0 : Int) ≤ (k : Int) := by omega
    have k1 : (k : Int) < 16 := by omega
    have k2 : ((k : Int)).toNat = k := by omega
    by_cases h4 : n = 4
    · have e4 := F4.out h4
      go_upto_region 19 with fail
      clear e4 CK
      have L5 := Lib.hid P57.out
      have L9 := Lib.hid P97.out
      have LB := Lib.hid B7.out
      clear P57 P97 B7
      go_wp2_with fail
      go_loopw [20] (fun i wr => ∃ (j : Nat), j ≤ 16 ∧ i = .int .i64 j ∧ Hid (wr.heap[b5]? = some (.cells V 27 (0, 0))) ∧ Hid (wr.heap[b9]? = some (.cells D 27 (0, 0))) ∧ Hid (Below w.heap.size w wr)) (fun i _ => 16 - (intOf i).toNat)
      case atStart => exact ⟨0, by omega, rfl, L5, L9, LB⟩
      case round =>
        obtain ⟨j, hj, rfl, H1, H2, HB⟩ := hrel
        by_cases hlt : j < 16
        · have c1 := (cell_of_row _ _ j _ _ _ H1.out).trans (HV.out j hlt)
          have c2 := (cell_of_row _ _ j _ _ _ H2.out).trans (HW.out j hlt)
          have hi0 : (0 : Int) ≤ (j : Int) := by omega
          have hi1 : (j : Int) < 16 := by omega
          have hk' : ((j : Int)).toNat = j := by omega
          by_cases hjk : j = k
          · subst hjk
            clear c1 c2
            go_wp2_with fail
            go_quiet (fail)
            go_wp2
            go_roundw
            case rel => exact ⟨j + 1, by omega, by go_num, Lib.hid (by simpa using H1.out), Lib.hid (by simpa using H2.out), Lib.hid (HB.out.trans ⟨rfl, rfl, rfl, Nat.le_refl _, fun _ _ => rfl⟩)⟩
            case measure => simp [intOf]; omega
          · have hjk' : ¬ ((j : Int) = (k : Int)) := by omega
            rw [FAR.out j hlt hjk] at c2
            go_wp2_with fail
            go_quiet (fail)
            go_wp2
            go_roundw
            case rel => exact ⟨j + 1, by omega, by go_num, Lib.hid (by simpa using H1.out), Lib.hid (by simpa using H2.out), Lib.hid (HB.out.trans ⟨rfl, rfl, rfl, Nat.le_refl _, fun _ _ => rfl⟩)⟩
            case measure => simp [intOf]; omega
        · obtain rfl : j = 16 := by omega
          have n2 : 2 < n := by omega
          go_wp2
          go_ret
          exact ⟨rfl, HB.out⟩
    · go_upto_region 19 with fail
      clear CK
      have L5 := Lib.hid P57.out
      have L9 := Lib.hid P97.out
      have LB := Lib.hid B7.out
      clear P57 P97 B7
      go_wp2_with fail
      go_loopw [20] (fun i wr => ∃ (j : Nat), j ≤ 16 ∧ i = .int .i64 j ∧ Hid (wr.heap[b5]? = some (.cells V 27 (0, 0))) ∧ Hid (wr.heap[b9]? = some (.cells D 27 (0, 0))) ∧ Hid (Below w.heap.size w wr)) (fun i _ => 16 - (intOf i).toNat)
      case atStart => exact ⟨0, by omega, rfl, L5, L9, LB⟩
      case round =>
        obtain ⟨j, hj, rfl, H1, H2, HB⟩ := hrel
        by_cases hlt : j < 16
        · have c1 := (cell_of_row _ _ j _ _ _ H1.out).trans (HV.out j hlt)
          have c2 := (cell_of_row _ _ j _ _ _ H2.out).trans (HW.out j hlt)
          have hi0 : (0 : Int) ≤ (j : Int) := by omega
          have hi1 : (j : Int) < 16 := by omega
          have hk' : ((j : Int)).toNat = j := by omega
          by_cases hjk : j = k
          · subst hjk
            clear c1 c2
            go_wp2_with fail
            go_quiet (fail)
            go_wp2
            go_roundw
            case rel => exact ⟨j + 1, by omega, by go_num, Lib.hid (by simpa using H1.out), Lib.hid (by simpa using H2.out), Lib.hid (HB.out.trans ⟨rfl, rfl, rfl, Nat.le_refl _, fun _ _ => rfl⟩)⟩
            case measure => simp [intOf]; omega
          · have hjk' : ¬ ((j : Int) = (k : Int)) := by omega
            rw [FAR.out j hlt hjk] at c2
            go_wp2_with fail
            go_quiet (fail)
            go_wp2
            go_roundw
            case rel => exact ⟨j + 1, by omega, by go_num, Lib.hid (by simpa using H1.out), Lib.hid (by simpa using H2.out), Lib.hid (HB.out.trans ⟨rfl, rfl, rfl, Nat.le_refl _, fun _ _ => rfl⟩)⟩
            case measure => simp [intOf]; omega
        · obtain rfl : j = 16 := by omega
          by_cases n2 : 2 < n
          · go_wp2
            go_ret
            exact ⟨rfl, HB.out⟩
          · have hok := HR.out.1
            unfold okSize at hok
            by_cases n1 : n = 1
            · subst n1
              have g0 := (GB.out.1 rfl).1
              have g1 := (GB.out.1 rfl).2
              by_cases hrr : 16 ≤ rr
              · obtain ⟨m1, m2⟩ := MH.out (by first | rfl | trivial) hrr
                go_wp2
                go_ret
                exact ⟨rfl, HB.out⟩
              · obtain ⟨m1, m2⟩ := M1.out (by first | rfl | trivial) (by omega)
                go_wp2
                go_ret
                exact ⟨rfl, HB.out⟩
            · obtain rfl : n = 2 := by omega
              obtain ⟨m1, m2⟩ := M2.out rfl
              have g0 := (GB.out.2 rfl).1
              have g1 := (GB.out.2 rfl).2
              have hrr : ¬ 16 ≤ rr := by have := HR.out.2.2; unfold topReg at this; rw [if_neg (by decide)] at this; omega
              go_wp2
              go_ret
              exact ⟨rfl, HB.out⟩

theorem door_met (os : Os) (args : Array Value) : laidMetH Tryd.prog Rows.fnRegsRow.laid ((World.doorLaid Tryd.prog 400 os).forCall (fun _ _ => 0) ⟨#[], args, []⟩).memory :=
  laidMetH_of_parts3 (fuel := 8) (laidMet_of_run' 8 (by kernel_rfl) (by kernel_rfl)) (by kernel_rfl) (by kernel_rfl)
theorem n_vars {H : Type} {enc : TypeId × Value → H} {P : Program} {w : World} {sp : Nat → Bool} {n1 n2 n3 n4 n5 n6 : String} {gs : List (DataW H)} {ps : List MemPlace} (h : DataW.TrodVars enc P w sp [n1, n2, n3, n4, n5, n6] gs ps) : ∃ g1 g2 g3 g4 g5 g6, gs = [g1, g2, g3, g4, g5, g6] := by
  match gs, h with
  | [], h => exact h.elim
  | [a1], ⟨_, _, _, _, _, _, _, _, _, _, h, _⟩ => exact h.elim
  | [a1, a2], ⟨_, _, _, _, _, _, _, _, _, _, ⟨_, _, _, _, _, _, _, _, _, _, h, _⟩, _⟩ => exact h.elim
  | [a1, a2, a3], ⟨_, _, _, _, _, _, _, _, _, _, ⟨_, _, _, _, _, _, _, _, _, _, ⟨_, _, _, _, _, _, _, _, _, _, h, _⟩, _⟩, _⟩ => exact h.elim
  | [a1, a2, a3, a4], ⟨_, _, _, _, _, _, _, _, _, _, ⟨_, _, _, _, _, _, _, _, _, _, ⟨_, _, _, _, _, _, _, _, _, _, ⟨_, _, _, _, _, _, _, _, _, _, h, _⟩, _⟩, _⟩, _⟩ => exact h.elim
  | [a1, a2, a3, a4, a5], ⟨_, _, _, _, _, _, _, _, _, _, ⟨_, _, _, _, _, _, _, _, _, _, ⟨_, _, _, _, _, _, _, _, _, _, ⟨_, _, _, _, _, _, _, _, _, _, ⟨_, _, _, _, _, _, _, _, _, _, h, _⟩, _⟩, _⟩, _⟩, _⟩ => exact h.elim
  | [a1, a2, a3, a4, a5, a6], _ => exact ⟨a1, a2, a3, a4, a5, a6, rfl⟩
  | a1 :: a2 :: a3 :: a4 :: a5 :: a6 :: b :: r, ⟨_, _, _, _, _, _, _, _, _, _, ⟨_, _, _, _, _, _, _, _, _, _, ⟨_, _, _, _, _, _, _, _, _, _, ⟨_, _, _, _, _, _, _, _, _, _, ⟨_, _, _, _, _, _, _, _, _, _, ⟨_, _, _, _, _, _, _, _, _, _, h, _⟩, _⟩, _⟩, _⟩, _⟩, _⟩ => exact h.elim
/-! ### THE ROW's STEP: WRITTEN OUT: LEAVE IT -/
set_option maxRecDepth 100000 in
theorem lifted (os : Os) (started : os.Started) (H : Type) (enc : TypeId × Value → H) :
    ReturnsInHanded {} Tryd.checked os 6 .any (fun w args => (Rows.fnRegsSpec.pre enc Tryd.prog Tryd.f6 [] false w args ∧ laidMetH Tryd.prog Rows.fnRegsRow.laid w) ∧ sizedMet enc Tryd.prog Tryd.f6 (OpenSpec.ofChange Rows.fnRegsSpec) false w args)
      (Rows.fnRegsSpec.post enc Tryd.prog Tryd.f6 false true false false) := by
  refine returnsInHanded_of_change_and (C := Tryd.checked) (X := fun w _ => laidMetH Tryd.prog Rows.fnRegsRow.laid w) (fun _ _ _ hh h => h.of_heap hh) own started (by kernel_rfl) Tryd.func6
    (ChangeSpec.witness_shaped (enc := enc) (C := Tryd.checked) (os := os) (X := fun w _ => laidMetH Tryd.prog Rows.fnRegsRow.laid w) false (World.doorLaid Tryd.prog 400 os) #[.slice none 0 0, .slice none 0 0] 8 rfl (World.shaped_of_RefB (by kernel_rfl) (by kernel_rfl)) (by kernel_rfl) (by kernel_rfl) (by kernel_rfl) (door_met os _)) ?_
  intro W base args ds gs before hval0 hW _ _ hL _
  have hval : ∀ (j : Nat) t v, Tryd.f6.params[j]? = some t → args[j]? = some v → Value.okWide Tryd.prog W .any base t v := hval0
  have hW' := hW
  obtain ⟨p, q, hA0, hV, rfl, hfz, hnd⟩ := hW
  have hA : DataW.TrodAll enc Tryd.prog W 0 (fun _ => true) true Tryd.f6.params.toList args.toList ds p := hA0
  rw [Tryd.params6] at hA hval
  obtain ⟨v0, vs0, d0, ds0, p0, q0, hargs, rfl, rfl, h0, r0⟩ := trodAll_cons hA
  obtain ⟨v1, vs1, d1, ds1, p1, q1, rfl, rfl, rfl, h1, r1⟩ := trodAll_cons r0
  obtain ⟨rfl, rfl, rfl⟩ := trodAll_nil r1
  obtain rfl : args = #[v0, v1] := by cases args; simp_all
  obtain ⟨g1, g2, g3, g4, g5, g6, rfl⟩ : ∃ g1 g2 g3 g4 g5 g6, gs = [g1, g2, g3, g4, g5, g6] := n_vars hV
  obtain ⟨a0, len0, cap0, rfl⟩ := okWide_slice Tryd.underlying40 (hval 0 40 v0 rfl rfl)
  have k0 := h0
  have lt0 : ∀ x ∈ p0, x.block < W.heap.size := by obtain ⟨m, hm⟩ := k0; exact DataW.trod_lt m _ _ _ hm
  obtain ⟨z0, w0⟩ : ∃ zs, IsRow .u8 W a0 len0 cap0 zs := by
    obtain ⟨fuel, hf⟩ := h0
    rcases open_ints Tryd.underlying40 Tryd.underlying5 (by kernel_rfl) hf with ⟨hcs, _⟩ | ⟨x, l, c, zs, hcs, _, hl, hm, hz, _, hcell, hwz⟩
    · simp [Value.cells] at hcs
      obtain ⟨rfl, rfl, rfl⟩ := hcs
      exact ⟨[], .inl ⟨rfl, rfl, rfl, rfl⟩⟩
    · simp [Value.cells] at hcs
      obtain ⟨rfl, rfl, rfl⟩ := hcs
      exact ⟨zs, .inr ⟨_, rfl, hl, hm, by simpa using hz, hcell, hwz⟩⟩
  obtain ⟨a1, len1, cap1, rfl⟩ := okWide_slice Tryd.underlying40 (hval 1 40 v1 rfl rfl)
  have k1 := h1
  have lt1 : ∀ x ∈ p1, x.block < W.heap.size := by obtain ⟨m, hm⟩ := k1; exact DataW.trod_lt m _ _ _ hm
  obtain ⟨z1, w1⟩ : ∃ zs, IsRow .u8 W a1 len1 cap1 zs := by
    obtain ⟨fuel, hf⟩ := h1
    rcases open_ints Tryd.underlying40 Tryd.underlying5 (by kernel_rfl) hf with ⟨hcs, _⟩ | ⟨x, l, c, zs, hcs, _, hl, hm, hz, _, hcell, hwz⟩
    · simp [Value.cells] at hcs
      obtain ⟨rfl, rfl, rfl⟩ := hcs
      exact ⟨[], .inl ⟨rfl, rfl, rfl, rfl⟩⟩
    · simp [Value.cells] at hcs
      obtain ⟨rfl, rfl, rfl⟩ := hcs
      exact ⟨zs, .inr ⟨_, rfl, hl, hm, by simpa using hz, hcell, hwz⟩⟩
  clear hA0 hval0
  refine (walk a0 len0 cap0 z0 a1 len1 cap1 z1 W w0 w1 hL).mono fun e W' ⟨he, hg⟩ => ?_
  subst he
  exact ⟨_, rfl, _, _, _, [], _, _, hW', trodAll_mk1 (shut_bool Tryd.underlying4 _), (trodAll_cons_mk (Below.trod laidOut (by kernel_rfl) (of_decide_eq_true (by kernel_rfl)) k0 hg lt0) (trodAll_cons_mk (Below.trod laidOut (by kernel_rfl) (of_decide_eq_true (by kernel_rfl)) k1 hg lt1) trodAll_mk0)), Below.trodVars laidOut hg (by kernel_rfl) hV, hg.frame _, fun h => by cases h⟩

theorem over : Rows.fnRegsRow.holds Tryd.pinned (OpenSpec.ofChange Rows.fnRegsSpec) :=
  OpenClaim.holds_of_wide 6 Tryd.f6 rfl rfl rfl rfl rfl rfl rfl ⟨rfl, rfl, rfl, rfl, rfl⟩ rfl rfl rfl rfl rfl (by kernel_rfl) Tryd.func6 (by kernel_rfl)
    (of_decide_eq_true (by kernel_rfl)) (by unfold Func.isWrapper; first | (rw [if_pos (by decide +kernel)]; kernel_rfl) | (rw [if_neg (by decide +kernel)]; exact ⟨rfl, rfl⟩))
    (fun os started H enc _ => lifted os started H enc)

theorem plain (f : FuncId) (fn : Func) (hf : Tryd.pinned.checked.prog.funcNamed "loop.example/g00664/laws.FnRegs" = some f) (hfn : Tryd.pinned.checked.prog.funcs[f]? = some fn) :
    true = Tryd.pinned.checked.prog.looks [] ∧ ∀ (j : Nat) t, fn.params[j]? = some t → Tryd.pinned.checked.prog.wantsStandIn t = false := by
  obtain rfl : f = 6 := Option.some.inj ((show Tryd.prog.funcNamed "loop.example/g00664/laws.FnRegs" = some 6 by kernel_rfl).symm.trans hf) |>.symm
  obtain rfl : fn = Tryd.f6 := (Option.some.inj (Tryd.func6.symm.trans hfn)).symm
  refine ⟨by kernel_rfl, fun j t ht => ?_⟩
  rw [Tryd.params6] at ht
  have hm := Array.mem_of_getElem? ht
  simp only [List.mem_toArray, List.mem_cons, List.not_mem_nil, or_false] at hm
  rcases hm with rfl | rfl
  · exact (show Tryd.prog.wantsStandIn 40 = false by kernel_rfl)
  · exact (show Tryd.prog.wantsStandIn 40 = false by kernel_rfl)
/-- THE CARD -/
theorem card : Rows.FnRegsCardSaid :=
  Claim7.holds_tied_plain_at .later [] _ _ _ _ over (fun _ h => by cases h) (by kernel_rfl) (fun _ h => by cases h) fnRegs_row_tie rfl ⟨rfl, rfl⟩ (by kernel_rfl) rfl plain (by kernel_rfl)
#print axioms card
end Go.Proofs.YtbcbepdfijcbmaaDoor.fnRegs
