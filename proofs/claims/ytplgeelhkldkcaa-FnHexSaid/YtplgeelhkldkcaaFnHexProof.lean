/-
  Proved: for every two slices of bytes, laws.FnHex returns true (bytes are read back from their digits, and digits that are none are refused), with no condition.
-/
import Derived.Test.YtplgeelhkldkcaaRows
import Derived.WalkKit
import Derived.ProofKit
import Derived.OpenShut
import Derived.ShutString
import Derived.Test.YtplgeelhkldkcaaMathHex
import Derived.Test.YtplgeelhkldkcaaLawAt
import Derived.ChangeOld
import Derived.Below
namespace Go.Proofs.Ytplgeelhkldkcaa.fnHex
open Go.ChangeShapes Go.WideShapes Go.ChangeAt Go.RowKit
open Go.ChangeMaps (open_string shut_string)
set_option linter.unusedVariables false

theorem own : ownKnob Try.prog.godebug = none := by kernel_rfl
theorem laidOut : laidOutB Try.prog = true := by kernel_rfl

/-- WHAT THE WALK IS TOLD OF A SLICE OF INTEGERS THAT CAME IN: it is nil; or it leads to a row of 'cap' cells, the numbers 'zs' (the first 'len' are its elements, the rest its spare room), each fitting its kind. -/
def IsRow (k : IntKind) (w : World) (a : Option Addr) (len cap : Nat) (zs : List Int) : Prop :=
  (a = none ∧ len = 0 ∧ cap = 0 ∧ zs = []) ∨
  ∃ x, a = some x ∧ len ≤ cap ∧ cap ≤ maxLen ∧ zs.length = cap ∧ (∀ i, i < zs.length → w.cell? (x.add i) = some (.int k (zs.getD i 0))) ∧ ∀ n ∈ zs, (Lit.int k n).wf = true

theorem rdb_of_row {w : World} {a : Option Addr} {len cap : Nat} {zs : List Int} (h : IsRow .u8 w a len cap zs) : Rdb w w.heap.size a len := by
  intro hl
  rcases h with ⟨_, h0, _, _⟩ | ⟨x, rfl, hlc, hm, hz, hc, hwf⟩
  · omega
  · obtain ⟨b, off, rfl, hcell⟩ := ints_at hc (by omega)
    refine ⟨b, off, rfl, ?_, fun j hj => ⟨_, hcell j (by omega), ?_⟩⟩
    · have h0 := hcell 0 (by omega)
      rcases Nat.lt_or_ge b w.heap.size with h | h
      · exact h
      · simp [World.cell?, Array.getElem?_eq_none h] at h0
    · have hj' : j < zs.length := by omega
      have := bounds_u8 (hwf zs[j] (List.getElem_mem hj'))
      simp [List.getElem?_eq_getElem hj']; omega
theorem walk (a0 : Option Addr) (len0 cap0 : Nat) (z0 : List Int) (a1 : Option Addr) (len1 cap1 : Nat) (z1 : List Int) (w : World) (w0 : IsRow .u8 w a0 len0 cap0 z0) (w1 : IsRow .u8 w a1 len1 cap1 z1) :
    Calls Try.prog 3 #[.slice a0 len0 cap0, .slice a1 len1 cap1] w fun e w' => e = .returned (.bool true) ∧ Below w.heap.size w w' := by
  have hr0 := rdb_of_row w0
  have hr1 := rdb_of_row w1
  clear w0 w1
  by_cases hb0 : (1048576 : Int) < len0
  · go_enter Try.func3, Try.ntmps3
    go_wp2
    go_ret
    exact ⟨rfl, Below.refl _ _⟩
  by_cases hb1 : (1048576 : Int) < len1
  · go_enter Try.func3, Try.ntmps3
    go_wp2
    go_ret
    exact ⟨rfl, Below.refl _ _⟩
  have hat : Calls Try.prog 11 #[.slice a1 len1 cap1, .int .i64 0, .int .i64 40] w (IntIn 0 39 w.heap.size w) := lawAt 0 40 len1 cap1 a1 w hr1 (by omega) (by omega) (by omega) (by omega)
  go_enter Try.func3, Try.ntmps3
  go_wp2_with fail
  refine hat.mono ?_
  rintro e wa ⟨r, r0, r1, rfl, hba⟩
  clear hat
  obtain ⟨n, rfl⟩ := Int.eq_ofNat_of_zero_le r0
  have hz := hba.size
  go_wp2_with fail
  refine (someText n len0 cap0 a0 _ (by omega) ((hr0.below hba).more hz) (by omega)).mono ?_
  rintro e wb ⟨t, ht, rfl, hbb⟩
  have HT := Lib.hid ht
  have ht2 : t.size ≤ 39 := by omega
  clear ht
  obtain ⟨h, hh⟩ : ∃ h, h = hexS t := ⟨_, rfl⟩
  have HH := Lib.hid hh
  have c1 : ∀ w, Calls Try.prog 12 #[.string t] w fun e w' => e = .returned (.string h) ∧ Below w.heap.size w w' := fun w => by rw [hh]; exact implHexL t w (by omega)
  have c2 : ∀ w, Calls Try.prog 14 #[.string t] w fun e w' => e = .returned (.string h) ∧ Below w.heap.size w w' := fun w => by
    rw [hh]; have := specHexOf t w (by unfold maxLen; omega); rw [if_pos (by omega)] at this; exact this
  have hsz : h.size = 2 * t.size := by
    rw [hh, hexS_X, hexX_size]; simp
  have c3 : ∀ w, Calls Try.prog 13 #[.string h] w fun e w' => e = .returned (.tuple #[.string t, .int .i64 0]) ∧ Below w.heap.size w w' := fun w => by
    have := implBytesOf h w (by unfold maxLen; omega)
    have hu := un_hex t.data.toList (by simp; omega)
    rw [← hexS_X, ← hh] at hu
    rw [hu.1, hu.2] at this; exact this
  have e4 : h ++ ⟨#[48]⟩ = hexX t.data.toList [48] := by rw [hh, hexS_X]; apply ByteArray.ext; simp [hexX]
  have e5 : h ++ ⟨#[48, 71]⟩ = hexX t.data.toList [48, 71] := by rw [hh, hexS_X]; apply ByteArray.ext; simp [hexX]
  obtain ⟨x4, c4⟩ : ∃ x, ∀ w, Calls Try.prog 13 #[.string (h ++ ⟨#[48]⟩)] w fun e w' => e = .returned (.tuple #[.string x, .int .i64 3]) ∧ Below w.heap.size w w' := ⟨unS (hexX t.data.toList [48]), fun w => by
    have := implBytesOf (h ++ ⟨#[48]⟩) w (by rw [e4, hexX_size]; unfold maxLen; simp; omega)
    rw [e4, un_hex1 t.data.toList (by simp; omega)] at this
    rw [e4]; exact this⟩
  obtain ⟨x5, c5⟩ : ∃ x, ∀ w, Calls Try.prog 13 #[.string (h ++ ⟨#[48, 71]⟩)] w fun e w' => e = .returned (.tuple #[.string x, .int .i64 3]) ∧ Below w.heap.size w w' := ⟨unS (hexX t.data.toList [48, 71]), fun w => by
    have := implBytesOf (h ++ ⟨#[48, 71]⟩) w (by rw [e5, hexX_size]; unfold maxLen; simp; omega)
    rw [e5, un_hexG t.data.toList (by simp; omega)] at this
    rw [e5]; exact this⟩
  have C1 := Lib.hid c1; have C2 := Lib.hid c2; have C3 := Lib.hid c3; have C4 := Lib.hid c4; have C5 := Lib.hid c5
  have hlen : ((h.size : Int) == 2 * (t.size : Int)) = true := beq_iff_eq.mpr (by omega)
  have HSZ := Lib.hid hsz
  have hsz2 : h.size ≤ 78 := by omega
  clear hh c1 c2 c3 c4 c5 e4 e5 hsz
  go_wp2_with fail
  refine (C1.out _).mono ?_
  rintro e wc ⟨rfl, hbc⟩
  go_wp2_with fail
  refine (C3.out _).mono ?_
  rintro e wd ⟨rfl, hbd⟩
  go_wp2_with fail
  refine (C4.out _).mono ?_
  rintro e we ⟨rfl, hbe⟩
  go_wp2_with fail
  refine (C5.out _).mono ?_
  rintro e wf ⟨rfl, hbf⟩
  go_wp2_with fail
  refine (C2.out _).mono ?_
  rintro e wg ⟨rfl, hbg⟩
  go_wp2
  go_ret
  have s1 := hba.size; have s2 := hbb.size; have s3 := hbc.size; have s4 := hbd.size; have s5 := hbe.size; have s6 := hbf.size
  exact ⟨rfl, hba.trans ((hbb.mono (by omega)).trans ((hbc.mono (by omega)).trans ((hbd.mono (by omega)).trans ((hbe.mono (by omega)).trans ((hbf.mono (by omega)).trans (hbg.mono (by omega)))))))⟩

/-! ### THE ROW's STEP: WRITTEN OUT: LEAVE IT -/
set_option maxRecDepth 100000 in
theorem lifted (os : Os) (started : os.Started) (H : Type) (enc : TypeId × Value → H) :
    ReturnsInHanded {} Try.checked os 3 .any (Rows.fnHexSpec.pre6 enc Try.prog Try.f3 Rows.fnHexRow.domain false) (Rows.fnHexSpec.post enc Try.prog Try.f3 false true false false) := by
  refine returnsInHanded_of_change (C := Try.checked) own started (by kernel_rfl) Try.func3
    (ChangeSpec.witness6 (enc := enc) (C := Try.checked) false ⟨#[], #[.slice none 0 0, .slice none 0 0], []⟩ 8 (by kernel_rfl) (by kernel_rfl) (by kernel_rfl) (by kernel_rfl)) ?_
  intro W base args ds gs before hval0 hW hcnd _
  have hval : ∀ (j : Nat) t v, Try.f3.params[j]? = some t → args[j]? = some v → Value.okWide Try.prog W .any base t v := hval0
  have hW' := hW
  obtain ⟨p, q, hA0, hV, rfl, hfz, hnd⟩ := hW
  have hA : DataW.TrodAll enc Try.prog W 0 (fun _ => true) true Try.f3.params.toList args.toList ds p := hA0
  rw [Try.params3] at hA hval
  obtain ⟨v0, vs0, d0, ds0, p0, q0, hargs, rfl, rfl, h0, r0⟩ := trodAll_cons hA
  obtain ⟨v1, vs1, d1, ds1, p1, q1, rfl, rfl, rfl, h1, r1⟩ := trodAll_cons r0
  obtain ⟨rfl, rfl, rfl⟩ := trodAll_nil r1
  obtain rfl : args = #[v0, v1] := by cases args; simp_all
  obtain ⟨rfl, rfl⟩ := trodVars_none hV
  obtain ⟨a0, len0, cap0, rfl⟩ := okWide_slice Try.underlying22 (hval 0 22 v0 rfl rfl)
  have k0 := h0
  have lt0 : ∀ x ∈ p0, x.block < W.heap.size := by obtain ⟨m, hm⟩ := k0; exact DataW.trod_lt m _ _ _ hm
  obtain ⟨z0, w0⟩ : ∃ zs, IsRow .u8 W a0 len0 cap0 zs := by
    obtain ⟨fuel, hf⟩ := h0
    rcases open_ints Try.underlying22 Try.underlying5 (by kernel_rfl) hf with ⟨hcs, _⟩ | ⟨x, l, c, zs, hcs, _, hl, hm, hz, _, hcell, hwz⟩
    · simp [Value.cells] at hcs
      obtain ⟨rfl, rfl, rfl⟩ := hcs
      exact ⟨[], .inl ⟨rfl, rfl, rfl, rfl⟩⟩
    · simp [Value.cells] at hcs
      obtain ⟨rfl, rfl, rfl⟩ := hcs
      exact ⟨zs, .inr ⟨_, rfl, hl, hm, by simpa using hz, hcell, hwz⟩⟩
  obtain ⟨a1, len1, cap1, rfl⟩ := okWide_slice Try.underlying22 (hval 1 22 v1 rfl rfl)
  have k1 := h1
  have lt1 : ∀ x ∈ p1, x.block < W.heap.size := by obtain ⟨m, hm⟩ := k1; exact DataW.trod_lt m _ _ _ hm
  obtain ⟨z1, w1⟩ : ∃ zs, IsRow .u8 W a1 len1 cap1 zs := by
    obtain ⟨fuel, hf⟩ := h1
    rcases open_ints Try.underlying22 Try.underlying5 (by kernel_rfl) hf with ⟨hcs, _⟩ | ⟨x, l, c, zs, hcs, _, hl, hm, hz, _, hcell, hwz⟩
    · simp [Value.cells] at hcs
      obtain ⟨rfl, rfl, rfl⟩ := hcs
      exact ⟨[], .inl ⟨rfl, rfl, rfl, rfl⟩⟩
    · simp [Value.cells] at hcs
      obtain ⟨rfl, rfl, rfl⟩ := hcs
      exact ⟨zs, .inr ⟨_, rfl, hl, hm, by simpa using hz, hcell, hwz⟩⟩
  clear hA0 hval0
  refine (walk a0 len0 cap0 z0 a1 len1 cap1 z1 W w0 w1).mono fun e W' ⟨he, bel⟩ => ?_
  subst he
  exact ⟨_, rfl, _, _, _, [], _, [], hW', trodAll_mk1 (shut_bool Try.underlying4 _), (trodAll_cons_mk (Below.trod laidOut (by kernel_rfl) (of_decide_eq_true (by kernel_rfl)) k0 bel lt0) (trodAll_cons_mk (Below.trod laidOut (by kernel_rfl) (of_decide_eq_true (by kernel_rfl)) k1 bel lt1) trodAll_mk0)), rfl, bel.frame _, fun h => by cases h⟩

theorem over : Rows.fnHexRow.holds Try.pinned (OpenSpec.ofChange Rows.fnHexSpec) :=
  OpenClaim.holds_of_wide 3 Try.f3 rfl rfl rfl rfl rfl rfl rfl ⟨rfl, rfl, rfl, rfl, rfl⟩ rfl rfl rfl rfl rfl (by kernel_rfl) Try.func3 (by kernel_rfl)
    (of_decide_eq_true (by kernel_rfl)) (by unfold Func.isWrapper; first | (rw [if_pos (by decide +kernel)]; kernel_rfl) | (rw [if_neg (by decide +kernel)]; exact ⟨rfl, rfl⟩))
    (fun os started H enc _ => lifted os started H enc)

/-- ████ THE STATEMENT ████ -/
theorem proved : Rows.FnHexSaid := over
#print axioms proved
end Go.Proofs.Ytplgeelhkldkcaa.fnHex
