/-
  Contracts of maps.Keys, slices.Sorted and slices.Sort at ints at this program: what the library's theorems on them ask of the program's bodies, compared by the kernel; no condition.
  What slices.Sorted(maps.Keys(t)) answers of a map keyed by ints, and what writtenRegs of impl does; conditions: those in each head.
  What TouchOf of impl answers, by its parts; conditions: those in each head.
-/
import Derived.Shelf.SlIterI.Nil
import Derived.Shelf.SortM.Plain
import Derived.Shelf.SortM.SortNone
import Derived.Test.YtjnjlgaemmdkhaaGreatDoorProg
import Derived.Test.YtjnjlgaemmdkhaaGreatDoorWalkTm
import Derived.Test.YtjnjlgaemmdkhaaGreatDoorWalkTs
import Derived.Maps.Ext
import Derived.Lib.SmallJoins
import Derived.Test.YtjnjlgaemmdkhaaGreatDoorWalkTm3
import Derived.Test.YtjnjlgaemmdkhaaGreatDoorWalkShape4
import Derived.Test.YtjnjlgaemmdkhaaGreatDoorWalkOkT14
import Derived.Deep.RegionWith
import Derived.Deep.RegionHeld3
import Derived.Laws.CopyOwn
namespace Go.Proofs
open Go.Shelf
def Tryz.keysA_ren : Go.Shelf.Ren := ⟨fun | 7 => 41 | 10 => 63 | n => n, fun | 23 => 42 | 26 => 3 | 3 => 3 | 28 => 62 | 0 => 0 | 27 => 61 | 33 => 45 | 4 => 4 | n => n, fun | n => n⟩
theorem Tryz.keysA : Go.Proofs.SlLaysZI.n7 Tryz.prog Tryz.keysA_ren := {
  mixed := by kernel_rfl
  f7 := ⟨Tryz.f41.name, by decide, Tryz.func41.trans (congrArg some (by kernel_rfl))⟩
  f10 := ⟨Tryz.f63.name, by decide, Tryz.func63.trans (congrArg some (by kernel_rfl))⟩
  t0 := Tryz.underlying0
  a0 := Tryz.isAgg0
  z0 := Tryz.sizeOf0
  v0 := Tryz.zeroValue0
  t4 := Tryz.underlying4
  a4 := Tryz.isAgg4
  z4 := Tryz.sizeOf4
  v4 := Tryz.zeroValue4
  t23 := Tryz.underlying42
  a23 := Tryz.isAgg42
  z23 := Tryz.sizeOf42
  v23 := Tryz.zeroValue42
  t26 := Tryz.underlying3
  a26 := Tryz.isAgg3
  z26 := Tryz.sizeOf3
  v26 := Tryz.zeroValue3
  t27 := Tryz.underlying61
  a27 := Tryz.isAgg61
  z27 := Tryz.sizeOf61
  v27 := Tryz.zeroValue61
  t28 := Tryz.underlying62
  a28 := Tryz.isAgg62
  z28 := Tryz.sizeOf62
  v28 := Tryz.zeroValue62
  t33 := Tryz.underlying45
  a33 := Tryz.isAgg45
  z33 := Tryz.sizeOf45
  v33 := Tryz.zeroValue45 }
def Tryz.sortedA_ren : Go.Shelf.Ren := ⟨fun | 6 => 40 | 8 => 61 | 9 => 62 | 11 => 78 | 13 => 80 | 12 => 79 | 23 => 95 | 24 => 96 | 14 => 86 | 15 => 87 | 16 => 88 | 17 => 89 | 18 => 90 | 19 => 91 | 20 => 92 | 21 => 93 | 22 => 94 | 25 => 98 | 26 => 99 | 27 => 100 | 28 => 101 | 29 => 102 | 30 => 103 | 31 => 108 | n => n, fun | 26 => 3 | 28 => 62 | 24 => 26 | 0 => 0 | 3 => 3 | 37 => 91 | 48 => 104 | 50 => 93 | 4 => 4 | 40 => 98 | 39 => 97 | 45 => 86 | 5 => 5 | 9 => 9 | 51 => 109 | 55 => 113 | 57 => 116 | 58 => 50 | 33 => 45 | n => n, fun | n => n⟩
theorem Tryz.sortedA : Go.Proofs.SlLaysZI.n6 Tryz.prog Tryz.sortedA_ren := {
  mixed := by kernel_rfl
  f6 := ⟨Tryz.f40.name, by decide, Tryz.func40.trans (congrArg some (by kernel_rfl))⟩
  f8 := ⟨Tryz.f61.name, by decide, Tryz.func61.trans (congrArg some (by kernel_rfl))⟩
  f11 := ⟨Tryz.f78.name, by decide, Tryz.func78.trans (congrArg some (by kernel_rfl))⟩
  t0 := Tryz.underlying0
  a0 := Tryz.isAgg0
  z0 := Tryz.sizeOf0
  v0 := Tryz.zeroValue0
  t24 := Tryz.underlying26
  a24 := Tryz.isAgg26
  z24 := Tryz.sizeOf26
  v24 := Tryz.zeroValue26
  t26 := Tryz.underlying3
  a26 := Tryz.isAgg3
  z26 := Tryz.sizeOf3
  v26 := Tryz.zeroValue3
  t28 := Tryz.underlying62
  a28 := Tryz.isAgg62
  z28 := Tryz.sizeOf62
  v28 := Tryz.zeroValue62
  i26 := by kernel_rfl }
def Tryz.sortA_ren : Go.Shelf.Ren := ⟨fun | 5 => 62 | 8 => 80 | 7 => 79 | 19 => 95 | 20 => 96 | 10 => 86 | 11 => 87 | 12 => 88 | 13 => 89 | 14 => 90 | 15 => 91 | 16 => 92 | 17 => 93 | 18 => 94 | 30 => 98 | 31 => 99 | 32 => 100 | 33 => 101 | 34 => 102 | 35 => 103 | 40 => 108 | n => n, fun | 23 => 26 | 25 => 3 | 3 => 3 | 32 => 91 | 22 => 26 | 0 => 0 | 44 => 104 | 46 => 93 | 4 => 4 | 36 => 98 | 35 => 97 | 41 => 86 | 5 => 5 | 9 => 9 | 53 => 109 | 57 => 113 | 63 => 116 | 64 => 50 | n => n, fun | n => n⟩
theorem Tryz.sortA : Go.Proofs.SlLaysM.n5 Tryz.prog Tryz.sortA_ren := {
  mixed := by kernel_rfl
  f5 := ⟨Tryz.f62.name, by decide, Tryz.func62.trans (congrArg some (by kernel_rfl))⟩
  f7 := ⟨Tryz.f79.name, by decide, Tryz.func79.trans (congrArg some (by kernel_rfl))⟩
  f8 := Tryz.func80.trans (congrArg some (by kernel_rfl))
  f10 := ⟨Tryz.f86.name, by decide, Tryz.func86.trans (congrArg some (by kernel_rfl))⟩
  f11 := ⟨Tryz.f87.name, by decide, Tryz.func87.trans (congrArg some (by kernel_rfl))⟩
  f12 := ⟨Tryz.f88.name, by decide, Tryz.func88.trans (congrArg some (by kernel_rfl))⟩
  f13 := ⟨Tryz.f89.name, by decide, Tryz.func89.trans (congrArg some (by kernel_rfl))⟩
  f14 := ⟨Tryz.f90.name, by decide, Tryz.func90.trans (congrArg some (by kernel_rfl))⟩
  f15 := ⟨Tryz.f91.name, by decide, Tryz.func91.trans (congrArg some (by kernel_rfl))⟩
  f16 := ⟨Tryz.f92.name, by decide, Tryz.func92.trans (congrArg some (by kernel_rfl))⟩
  f17 := ⟨Tryz.f93.name, by decide, Tryz.func93.trans (congrArg some (by kernel_rfl))⟩
  f18 := ⟨Tryz.f94.name, by decide, Tryz.func94.trans (congrArg some (by kernel_rfl))⟩
  f19 := Tryz.func95.trans (congrArg some (by kernel_rfl))
  f20 := Tryz.func96.trans (congrArg some (by kernel_rfl))
  f30 := ⟨Tryz.f98.name, by decide, Tryz.func98.trans (congrArg some (by kernel_rfl))⟩
  f31 := Tryz.func99.trans (congrArg some (by kernel_rfl))
  f32 := Tryz.func100.trans (congrArg some (by kernel_rfl))
  f33 := ⟨Tryz.f101.name, by decide, Tryz.func101.trans (congrArg some (by kernel_rfl))⟩
  f34 := ⟨Tryz.f102.name, by decide, Tryz.func102.trans (congrArg some (by kernel_rfl))⟩
  f35 := ⟨Tryz.f103.name, by decide, Tryz.func103.trans (congrArg some (by kernel_rfl))⟩
  f40 := ⟨Tryz.f108.name, by decide, Tryz.func108.trans (congrArg some (by kernel_rfl))⟩
  t0 := Tryz.underlying0
  a0 := Tryz.isAgg0
  z0 := Tryz.sizeOf0
  v0 := Tryz.zeroValue0
  t3 := Tryz.underlying3
  a3 := Tryz.isAgg3
  z3 := Tryz.sizeOf3
  v3 := Tryz.zeroValue3
  t4 := Tryz.underlying4
  a4 := Tryz.isAgg4
  z4 := Tryz.sizeOf4
  v4 := Tryz.zeroValue4
  t5 := Tryz.underlying5
  a5 := Tryz.isAgg5
  z5 := Tryz.sizeOf5
  v5 := Tryz.zeroValue5
  t9 := Tryz.underlying9
  a9 := Tryz.isAgg9
  z9 := Tryz.sizeOf9
  v9 := Tryz.zeroValue9
  t22 := Tryz.underlying26
  a22 := Tryz.isAgg26
  z22 := Tryz.sizeOf26
  v22 := Tryz.zeroValue26
  t23 := Tryz.underlying26
  a23 := Tryz.isAgg26
  z23 := Tryz.sizeOf26
  v23 := Tryz.zeroValue26
  t25 := Tryz.underlying3
  a25 := Tryz.isAgg3
  z25 := Tryz.sizeOf3
  v25 := Tryz.zeroValue3
  t32 := Tryz.underlying91
  a32 := Tryz.isAgg91
  z32 := Tryz.sizeOf91
  v32 := Tryz.zeroValue91
  t35 := Tryz.underlying97
  a35 := Tryz.isAgg97
  z35 := Tryz.sizeOf97
  v35 := Tryz.zeroValue97
  t36 := Tryz.underlying98
  a36 := Tryz.isAgg98
  z36 := Tryz.sizeOf98
  v36 := Tryz.zeroValue98
  t41 := Tryz.underlying86
  a41 := Tryz.isAgg86
  z41 := Tryz.sizeOf86
  v41 := Tryz.zeroValue86
  t44 := Tryz.underlying104
  a44 := Tryz.isAgg104
  z44 := Tryz.sizeOf104
  v44 := Tryz.zeroValue104
  t46 := Tryz.underlying93
  a46 := Tryz.isAgg93
  z46 := Tryz.sizeOf93
  v46 := Tryz.zeroValue93
  t53 := Tryz.underlying109
  a53 := Tryz.isAgg109
  z53 := Tryz.sizeOf109
  v53 := Tryz.zeroValue109
  t57 := Tryz.underlying113
  a57 := Tryz.isAgg113
  z57 := Tryz.sizeOf113
  v57 := Tryz.zeroValue113
  t63 := Tryz.underlying116
  a63 := Tryz.isAgg116
  z63 := Tryz.sizeOf116
  v63 := Tryz.zeroValue116
  t64 := Tryz.underlying50
  a64 := Tryz.isAgg50
  z64 := Tryz.sizeOf50
  v64 := Tryz.zeroValue50 }
end Go.Proofs
namespace Go.Proofs.YtjnjlgaemmdkhaaGreatDoor
open Go.RowKit Go.Maps Go.Sort Go.Shelf
set_option linter.unusedVariables false
set_option linter.unusedSimpArgs false
theorem sortsA (m : Nat) : AnyZI.SortsIn Tryz.prog Tryz.sortedA_ren Fence.wide m :=
  ⟨fun blk off cap ss W hH hblk hsz => callsIn_wide.2 (AnyM.slices_Sort_int Tryz.sortA blk off cap ss W hH hblk hsz),
   fun p cap W => callsIn_wide.2 (AnyM.slices_Sort_int_none Tryz.sortA p cap W)⟩
theorem keysC (mb : Option Nat) (W : World) : Calls Tryz.prog 41 #[.map mb] W fun e w' => e = .returned (.func (.func 63) #[] #[.pointer (some ⟨W.heap.size, 0, none⟩)]) ∧ w' = W.alloc (.cells #[.map mb] 42) :=
  (callsIn_wide (n := 5)).1 (AnyZI.keys_in Tryz.keysA Fence.wide 5 trivial rfl mb W)
set_option maxHeartbeats 1000000 in
theorem sortedC {H : Type} (b nn : Nat) (D0 : DataW H) (R : Value → Option (DataW H × List MemPlace)) (w : World) (hown : w.ownsMap Tryz.prog 3 R b nn D0) (hmax : Maps.size D0 ≤ maxLen) (hbytes : Maps.size D0 * 8 ≤ 140737488355328) :
    Calls Tryz.prog 40 #[.func (.func 63) #[] #[.pointer (some ⟨w.heap.size, 0, none⟩)]] (w.alloc (.cells #[.map (some b)] 42)) fun e w' => ∃ (v : Value) (ss : List Int), e = .returned v ∧ ss.Perm (intKeys D0) ∧
      w'.ownsRow w.heap.size 3 1 v ss.length ((ss.mergeSort (fun x y => decide (x ≤ y))).map encZ) ∧ (v = .slice none 0 0 ↔ ss = []) ∧ Below w.heap.size w w' := by
  have hbl := hown.lt
  have hseq : SeqGives Fence.wide 2 Tryz.prog 63 #[.pointer (some ⟨w.heap.size, 0, none⟩)] encZ (fun ss => ss.Perm (intKeys D0)) (Maps.size D0) (w.alloc (.cells #[.map (some b)] 42)) :=
    AnyZI.keys_gives (ρ := Tryz.keysA_ren) { Tryz.keysA with } Fence.wide _ trivial rfl (by omega) w.heap.size b nn D0 _ (by simp) (by simp) (by
      obtain ⟨es, clock, hb, Ft, hs, hD⟩ := hown
      exact ⟨es, clock, (Below.heap_alloc _ _ b hbl).trans hb, Ft, hs, hD⟩)
  have cS := AnyZI.sorted_in Tryz.sortedA Fence.wide 5 trivial trivial trivial trivial rfl (by omega) (sortsA _) (enters_of Tryz.func62 (by kernel_rfl) rfl) 63 #[.pointer (some ⟨w.heap.size, 0, none⟩)] trivial (enters_of Tryz.func63 (by kernel_rfl) rfl) _ _ hmax hbytes _ hseq
  change CallsIn _ _ Tryz.prog 40 _ _ _ at cS
  refine ((callsIn_wide (n := 5)).1 cS).mono ?_
  rintro e w' ⟨v, ss, rfl, hS, hrow, hnil, hb⟩
  exact ⟨v, ss, rfl, hS, ownsRow_base_a hrow (by simp), hnil, ((Below.refl _ w).alloc (Nat.le_refl _) _).trans (hb.mono (by simp))⟩
/-- what the map holds while it is swept -/
def gleft (g : Int → Option (Bool × Bool)) (left : Lit → Bool) : Int → Option (Bool × Bool) := fun k => if (tget g k).2 || left (.int .i64 k) then g k else none
theorem same_int (k x : Int) : (Lit.int .i64 k).sameKey (.int .i64 x) = decide (k = x) := by
  by_cases e : k = x
  · subst e; rw [decide_eq_true rfl]; simp [Lit.sameKey]
  · rw [decide_eq_false e]; exact Maps.sameKey_ne (fun h => e (by injection h))
theorem gleft_start {D : DataW Unit} {g : Int → Option (Bool × Bool)} (h : TMD D g) : TMD D (gleft g (Maps.has D)) := by
  intro k hk
  obtain ⟨h1, h2⟩ := h k hk
  have e : gleft g (Maps.has D) k = g k := by
    unfold gleft
    rw [h1]
    cases hg : g k
    · unfold tget; rw [hg]; rfl
    · rw [Option.isSome_some, Bool.or_true]; rfl
  unfold tget
  rw [e]
  exact ⟨h1, h2⟩
theorem gleft_has (g : Int → Option (Bool × Bool)) (left : Lit → Bool) (x : Int) : tany (tand (tget (gleft g left) x) (false, true)) = (tget g x).2 := by
  have e : tany (tand (tget (gleft g left) x) (false, true)) = (tget (gleft g left) x).2 := by unfold tany tand; simp
  rw [e]
  unfold gleft
  cases h : (tget g x).2
  · cases hl : left (.int .i64 x)
    · unfold tget; simp only [h, hl, Bool.or_self]; unfold tget at h; rw [h]; rfl
    · unfold tget; unfold tget at h; simp only [h, hl, Bool.false_or]; exact h
  · unfold tget; unfold tget at h; simp only [h, Bool.true_or]; exact h
theorem gleft_stays {D : DataW Unit} {g : Int → Option (Bool × Bool)} {left : Lit → Bool} {x : Int} (h : TMD D (gleft g left)) (hx : (tget g x).2 = true) : TMD D (gleft g (fun z => left z && !z.sameKey (.int .i64 x))) := by
  have e : gleft g (fun z => left z && !z.sameKey (.int .i64 x)) = gleft g left := by
    funext k
    unfold gleft
    dsimp only
    by_cases e : k = x
    · subst e; rw [hx]; rfl
    · simp only [same_int, e, decide_false, Bool.not_false, Bool.and_true]
  rw [e]; exact h
theorem gleft_struck {D : DataW Unit} {g : Int → Option (Bool × Bool)} {left : Lit → Bool} {x : Int} (h : TMD D (gleft g left)) (hx : (tget g x).2 = false) : TMD (D.del (.int .i64 x)) (gleft g (fun z => left z && !z.sameKey (.int .i64 x))) := by
  have e : gleft g (fun z => left z && !z.sameKey (.int .i64 x)) = tdel x (gleft g left) := by
    funext k
    unfold gleft tdel
    dsimp only
    by_cases e : k = x
    · subst e; simp only [hx, same_int, decide_true, if_true, Bool.not_true, Bool.and_false, Bool.or_self, Bool.false_eq_true, if_false]
    · simp only [same_int, e, decide_false, Bool.not_false, Bool.and_true, if_false]
  rw [e]; exact tm_del h
theorem gleft_end {D : DataW Unit} {g : Int → Option (Bool × Bool)} {left : Lit → Bool} (h : TMD D (gleft g left)) (hl : ∀ kl, left kl = false) : TMD D (gleft g (fun _ => false)) := by
  have e : left = fun _ => false := funext hl
  rw [← e]; exact h
theorem own_ints {w : World} {R : Value → Option (DataW Unit × List MemPlace)} {b n : Nat} {D : DataW Unit} (h : w.ownsMap Tryz.prog 3 R b n D) : ∃ es, D = .map es ∧ (∀ p ∈ es, ∃ x : Int, p.1 = .int .i64 x ∧ (Lit.int .i64 x).wf = true) ∧ es.Pairwise (fun p q => p.1 ≠ q.1) := by
  obtain ⟨es, e, hp⟩ := h.tidy tmLaw
  refine ⟨es, e, ?_, hp⟩
  obtain ⟨es0, clock, _, F, _, hD⟩ := h
  rw [e] at hD
  injection hD with hD
  intro p hpm
  rw [hD] at hpm
  have hm : p ∈ es0.toList.map (Go.WideElems.rg Tryz.prog 3 R) := (WideShapes.sorted_perm _).mem_iff.1 hpm
  obtain ⟨v, hv⟩ := Maps.fit_keys F p hm
  obtain ⟨x, _, e2, e3⟩ := Maps.keyOf_int_inv Tryz.underlying3 hv
  exact ⟨x, e2, e3⟩
set_option maxRecDepth 100000 in
set_option maxHeartbeats 2000000 in
theorem writtenC (b n : Nat) (g : Int → Option (Bool × Bool)) (w : World) (hT : TM w b n g) (hn : n < 1000) :
    Calls Tryz.prog 17 #[.map (some b)] w fun e w' => ∃ (v : Value) (ss : List Int) (D : DataW Unit), e = .returned v ∧ ss.Perm (intKeys D) ∧ (∃ es, D = .map es ∧ (∀ p ∈ es, ∃ x : Int, p.1 = .int .i64 x ∧ (Lit.int .i64 x).wf = true) ∧ es.Pairwise (fun p q => p.1 ≠ q.1)) ∧ TMD D (gleft (tdel (-1) g) (fun _ => false)) ∧
      w'.ownsRow w.heap.size 3 1 v ss.length ((ss.mergeSort (fun x y => decide (x ≤ y))).map encZ) ∧ w.grownBy w' (some b) := by
  obtain ⟨D0, hown, hD⟩ := hT
  have hkey : keyOf Tryz.prog 3 (.int .i64 (-1)) = some (.int .i64 (-1)) := keyOf_int_mk Tryz.underlying3 (by decide)
  have HC := Lib.hid (fun W (left : Lit → Bool) (x : Int) (hx : (Lit.int .i64 x).wf = true) (h : TM W b n (gleft (tdel (-1) g) left)) => hasC (false, true) x hx b n _ W h)
  have HK := Lib.hid keysC
  go_enter Tryz.func17, Tryz.ntmps17
  go_wp2_with (first
    | (at_delete; refine wpList_delete_own _ rfl _ _ 42 3 rfl 3 tmLaw Tryz.underlying42 _ b n D0 rfl hown _ _ rfl hkey ?_; intro w1 hown1 hturn1)
    | (at_range; refine wpList_range_own _ rfl _ 42 rfl 3 3 tmLaw Tryz.underlying42 _ b n _ rfl hown1 ?_; intro w0 hrg0 hg0 hs0)
    | go_in)
  go_frame
  have HT0 := Lib.hid (gleft_start (tm_del (p := -1) hD))
  have HTu := Lib.hid hturn1.grown
  clear hown hown1 hturn1 hD
  go_loopw [3] (fun _ wr => ∃ (left : Lit → Bool) (cnt : Nat) (D : DataW Unit), wr.ranges Tryz.prog 3 (plainElem Tryz.prog 3) b w1.heap.size n D left cnt ∧ Hid (TMD D (gleft (tdel (-1) g) left)) ∧ Hid (w.grownBy wr (some b)))
    (fun _ wr => wr.rangeLeft b w1.heap.size)
  case atStart => exact ⟨_, _, _, hrg0, HT0, Lib.hid (HTu.out.andThen hg0 (fun j hj => by cases hj))⟩
  case round =>
    obtain ⟨left, cnt, D, hrg, HD, HG⟩ := hrel
    go_wp2_with (first
      | (at_next; refine wpList_next_ranges_ii _ rfl _ rfl 3 3 .i64 .i64 tmLaw Tryz.underlying3 Tryz.underlying3 b w1.heap.size n _ _ _ rfl hrg ?_ ?_)
      | go_in)
    · intro _ hl0
      have HE := Lib.hid (gleft_end HD.out hl0)
      have HO := Lib.hid hrg.owns
      have hsz : Maps.size D ≤ n := hrg.owns.size_le
      clear hl0 hrg
      go_wp2_with fail
      refine (HK.out _ _).mono ?_
      rintro e w3 ⟨rfl, rfl⟩
      go_wp2_with fail
      refine (sortedC b n D _ wr HO.out (by unfold maxLen; omega) (by omega)).mono ?_
      rintro e w4 ⟨v, ss, rfl, hS, hrow, hnil, hb⟩
      go_wp2
      go_ret
      exact ⟨v, ss, D, rfl, hS, own_ints HO.out, HE.out, Joins.ownsRow_le hrow HG.out.size, HG.out.andThen (row' := none) ⟨hb.os, hb.tape, hb.output, hb.size, fun k hk _ => hb.block k hk⟩ (fun j hj => by cases hj)⟩
    · intro x c w2 cnt1 hwx hwc hlx hat hrg1 hlt hg1 hs1 hen
      have HG1 := Lib.hid (HG.out.andThen hg1 (fun j hj => by cases hj; exact Or.inl (by have := HTu.out.size; omega)))
      have CH := HC.out w2 left x hwx ⟨D, hrg1.owns, HD.out⟩
      rw [gleft_has] at CH
      unfold tnum at CH
      simp only [reduceIte, Bool.false_eq_true, Int.zero_add, Int.add_zero, Int.reduceAdd] at CH
      cases hx : (tget (tdel (-1) g) x).2
      · rw [hx] at CH
        have CHh := Lib.hid CH
        have HX := Lib.hid hx
        clear CH hx
        go_wp2_with (first
          | (go_at_call 15; refine CHh.out.mono ?_; rintro e w3 ⟨rfl, rfl⟩)
          | (at_delete; refine wpList_delete_ranges _ rfl _ _ 42 3 rfl 3 tmLaw Tryz.underlying42 _ b w1.heap.size n _ _ _ rfl hrg1 _ _ rfl (keyOf_int_mk Tryz.underlying3 hwx) ?_; intro w4 cnt2 hrg2 hle hturn; go_frame)
          | go_in)
        rw [strike_twice] at hrg2
        go_roundw
        case rel => exact ⟨_, cnt2, _, hrg2, Lib.hid (gleft_struck HD.out HX.out), Lib.hid (HG1.out.andThen hturn.grown (fun j hj => by cases hj; exact Or.inr rfl))⟩
        case measure => rw [hrg2.left_eq, hrg.left_eq]; omega
      · rw [hx] at CH
        have CHh := Lib.hid CH
        have HX := Lib.hid hx
        clear CH hx
        go_wp2_with (first
          | (go_at_call 15; refine CHh.out.mono ?_; rintro e w3 ⟨rfl, rfl⟩)
          | go_in)
        go_roundw
        case rel => exact ⟨_, cnt1, _, hrg1, Lib.hid (gleft_stays HD.out HX.out), HG1⟩
        case measure => rw [hrg1.left_eq, hrg.left_eq]; exact hlt
theorem eq_of_rise : ∀ (l m : List Int), l.Pairwise (· < ·) → m.Pairwise (· < ·) → (∀ x, x ∈ l ↔ x ∈ m) → l = m
  | [], [], _, _, _ => rfl
  | [], b :: m, _, _, h => by have := (h b).2 (List.mem_cons_self ..); cases this
  | a :: l, [], _, _, h => by have := (h a).1 (List.mem_cons_self ..); cases this
  | a :: l, b :: m, hl, hm, h => by
    rw [List.pairwise_cons] at hl hm
    have e : a = b := by
      rcases List.mem_cons.1 ((h a).1 (List.mem_cons_self ..)) with e | e
      · exact e
      · rcases List.mem_cons.1 ((h b).2 (List.mem_cons_self ..)) with e' | e'
        · exact e'.symm
        · have h1 := hm.1 a e; have h2 := hl.1 b e'; omega
    subst e
    congr 1
    refine eq_of_rise l m hl.2 hm.2 (fun x => ⟨fun hx => ?_, fun hx => ?_⟩)
    · rcases List.mem_cons.1 ((h x).1 (List.mem_cons_of_mem _ hx)) with e | e
      · have := hl.1 x hx; omega
      · exact e
    · rcases List.mem_cons.1 ((h x).2 (List.mem_cons_of_mem _ hx)) with e | e
      · have := hm.1 x hx; omega
      · exact e
theorem mem_keys {D : DataW Unit} {es : List (Lit × DataW Unit)} {g : Int → Option (Bool × Bool)} (e : D = .map es) (hI : ∀ p ∈ es, ∃ x : Int, p.1 = .int .i64 x ∧ (Lit.int .i64 x).wf = true) (hT : TMD D g) (hr : ∀ k, (g k).isSome = true → 0 ≤ k ∧ k < 16) (x : Int) :
    x ∈ intKeys D ↔ (g x).isSome = true := by
  subst e
  constructor
  · intro hx
    obtain ⟨p, hp, rfl⟩ := List.mem_map.1 (show x ∈ es.map (fun p => _) from hx)
    obtain ⟨y, e1, e2⟩ := hI p hp
    rw [e1]
    show (g y).isSome = true
    rw [← (hT y e2).1, Maps.has_eq]
    exact List.any_eq_true.2 ⟨p, hp, by rw [e1, same_int, decide_eq_true rfl]⟩
  · intro hx
    have hb := hr x hx
    have hw : (Lit.int .i64 x).wf = true := WalkArith.wf_i64 (by omega)
    rw [← (hT x hw).1, Maps.has_eq] at hx
    obtain ⟨p, hp, h2⟩ := List.any_eq_true.1 hx
    obtain ⟨y, e1, _⟩ := hI p hp
    rw [e1, same_int] at h2
    have e3 : y = x := of_decide_eq_true h2
    refine List.mem_map.2 ⟨p, hp, ?_⟩
    rw [e1]; exact e3
theorem pairwise_lt_regL (h : Nat → Bool) (n : Nat) : (regL h n).Pairwise (· < ·) := by
  unfold regL
  rw [List.pairwise_map]
  exact (List.pairwise_lt_range.filter _).imp (fun {a b} hab => by omega)
theorem keys_list {D : DataW Unit} {es : List (Lit × DataW Unit)} {g : Int → Option (Bool × Bool)} (e : D = .map es) (hI : ∀ p ∈ es, ∃ x : Int, p.1 = .int .i64 x ∧ (Lit.int .i64 x).wf = true) (hA : es.Pairwise (fun p q => p.1 ≠ q.1)) (hT : TMD D g) (hr : ∀ k, (g k).isSome = true → 0 ≤ k ∧ k < 16)
    {ss : List Int} (hS : ss.Perm (intKeys D)) : ss.mergeSort (fun x y => decide (x ≤ y)) = regL (fun i => (g (i : Int)).isSome) 16 := by
  have hP : (ss.mergeSort (fun x y => decide (x ≤ y))).Perm ss := List.mergeSort_perm _ _
  have hne : (intKeys D).Pairwise (· ≠ ·) := by
    subst e
    unfold intKeys
    rw [List.pairwise_map]
    refine List.Pairwise.imp_of_mem ?_ hA
    intro p q hp hq hpq h2
    obtain ⟨x, e1, _⟩ := hI p hp
    obtain ⟨y, e2, _⟩ := hI q hq
    rw [e1, e2] at h2 hpq
    exact hpq (congrArg (Lit.int .i64) h2)
  have hle : (ss.mergeSort (fun x y => decide (x ≤ y))).Pairwise (fun x y => decide (x ≤ y) = true) := List.pairwise_mergeSort (fun a b c h1 h2 => by simp only [decide_eq_true_eq] at *; omega) (fun a b => by simp only [Bool.or_eq_true, decide_eq_true_eq]; omega) ss
  have hne2 : (ss.mergeSort (fun x y => decide (x ≤ y))).Pairwise (· ≠ ·) := ((hP.trans hS).pairwise_iff (fun {_ _} h => Ne.symm h)).2 hne
  have hlt : (ss.mergeSort (fun x y => decide (x ≤ y))).Pairwise (· < ·) := (hle.and hne2).imp (fun {a b} h => by have h1 := of_decide_eq_true h.1; have h2 := h.2; omega)
  refine eq_of_rise _ _ hlt (pairwise_lt_regL _ _) (fun x => ?_)
  rw [(hP.trans hS).mem_iff, mem_keys e hI hT hr]
  unfold regL
  constructor
  · intro hx
    have hb := hr x hx
    exact List.mem_map.2 ⟨x.toNat, List.mem_filter.2 ⟨List.mem_range.2 (by omega), by rw [show ((x.toNat : Nat) : Int) = x by omega]; exact hx⟩, by omega⟩
  · intro hx
    obtain ⟨i, hi, rfl⟩ := List.mem_map.1 hx
    exact (List.mem_filter.1 hi).2
theorem gleft_some (g : Int → Option (Bool × Bool)) (k : Int) (hk : k ≠ -1) : (gleft (tdel (-1) g) (fun _ => false) k).isSome = (tget g k).2 := by
  unfold gleft
  have e : tdel (-1) g k = g k := by unfold tdel; rw [if_neg hk]
  have e2 : tget (tdel (-1) g) k = tget g k := by unfold tget; rw [e]
  dsimp only
  rw [Bool.or_false]
  simp only [e, e2]
  cases h : (tget g k).2
  · rfl
  · unfold tget at h
    cases hg : g k
    · rw [hg] at h; cases h
    · rfl
theorem gleft_none (g : Int → Option (Bool × Bool)) : gleft (tdel (-1) g) (fun _ => false) (-1) = none := by
  unfold gleft
  have e : tdel (-1) g (-1) = none := by unfold tdel; rw [if_pos rfl]
  dsimp only
  simp only [e]
  split <;> rfl
theorem writtenL (b n : Nat) (g : Int → Option (Bool × Bool)) (w : World) (hT : TM w b n g) (hn : n < 1000) (hr : ∀ k, k ≠ -1 → (tget g k).2 = true → 0 ≤ k ∧ k < 16) :
    Calls Tryz.prog 17 #[.map (some b)] w fun e w' => ∃ v : Value, e = .returned v ∧
      w'.ownsRow w.heap.size 3 1 v (regL (fun i => (tget g (i : Int)).2) 16).length ((regL (fun i => (tget g (i : Int)).2) 16).map (fun i => .int .i64 i)) ∧ w.grownBy w' (some b) := by
  refine (writtenC b n g w hT hn).mono ?_
  rintro e w' ⟨v, ss, D, rfl, hS, ⟨es, e, hI, hA⟩, hT', hO, hG⟩
  have hr' : ∀ k, (gleft (tdel (-1) g) (fun _ => false) k).isSome = true → 0 ≤ k ∧ k < 16 := by
    intro k hk
    by_cases h : k = -1
    · subst h; rw [gleft_none] at hk; cases hk
    · rw [gleft_some g k h] at hk; exact hr k h hk
  have hl := keys_list e hI hA hT' hr' hS
  have hf : (fun i : Nat => (gleft (tdel (-1) g) (fun _ => false) (i : Int)).isSome) = fun i : Nat => (tget g (i : Int)).2 := funext fun i => gleft_some g i (by omega)
  rw [hf] at hl
  have hlen : ss.length = (regL (fun i => (tget g (i : Int)).2) 16).length := by rw [← hl, List.length_mergeSort]
  rw [hl, hlen] at hO
  exact ⟨v, rfl, hO, hG⟩
end Go.Proofs.YtjnjlgaemmdkhaaGreatDoor
namespace Go.Proofs.YtjnjlgaemmdkhaaGreatDoor
open Go.RowKit Go.Maps
set_option linter.unusedVariables false
set_option linter.unusedSimpArgs false
theorem form_ownT {w : World} {B e s n : Nat} {v : Value} {xs : List Value} (h : w.ownsRow B e s v n xs) : ∃ p c, v = .slice p n c := by
  rcases h.2 with ⟨h1, h2⟩ | ⟨g, cap, cur, e1, _⟩
  · exact ⟨none, 0, by rw [h1, h2]⟩
  · exact ⟨_, _, e1⟩
theorem own_keptT {w w' : World} {B e s n : Nat} {v : Value} {xs : List Value} (h : w.ownsRow B e s v n xs) (hk : ∀ k, v.ownBlock = some k → w'.heap[k]? = w.heap[k]?) : w'.ownsRow B e s v n xs := by
  obtain ⟨h1, h2⟩ := h
  refine ⟨h1, h2.imp id ?_⟩
  rintro ⟨g, cap, cur, rfl, hb, hg, h3⟩
  exact ⟨g, cap, cur, rfl, hb, (hk g rfl).trans hg, h3⟩
theorem setRow_other {w : World} {g k : Nat} {cs : Array Value} (h : k ≠ g) : (w.setRow g cs).heap[k]? = w.heap[k]? := by
  simp [World.setRow, Array.getElem?_modify, h, Ne.symm h]
theorem tany_1 (a : Bool × Bool) : tany (tand a (true, false)) = a.1 := by unfold tany tand; simp
theorem tany_2 (a : Bool × Bool) : tany (tand a (false, true)) = a.2 := by unfold tany tand; simp
/-- within TouchOf: the instruction's block, the answer's block, the map -/
structure QS (w W : World) (b : Nat) (op sz cd fr : Int) (d s : Opd) (ln : Int) : Prop where
  r : W.heap[w.heap.size]? = some (.cells #[.int .i64 op, .int .i64 sz, .int .i64 cd, .int .i64 fr, .int .i64 d.k, .int .i64 d.r, .int .i64 d.b, .int .i64 d.i, .int .i64 d.s, .int .i64 d.d, .int .i64 d.m, .int .i64 s.k, .int .i64 s.r, .int .i64 s.b, .int .i64 s.i, .int .i64 s.s, .int .i64 s.d, .int .i64 s.m, .int .i64 ln] 33 (0, 0))
  z : W.heap[w.heap.size + 1]? = some (.cells #[.slice none 0 0, .bool false, .bool false, .bool false] 28 (0, 0))
  be : Below w.heap.size w W
  t : TM W b 5 (toG ⟨op, sz, cd, fr, d, s, ln⟩)
  g : w.heap.size + 2 ≤ b
theorem QS.drew {w W : World} {b : Nat} {op sz cd fr : Int} {d s : Opd} {ln : Int} (h : QS w W b op sz cd fr d s ln) : QS w W.drew b op sz cd fr d s ln := ⟨h.r, h.z, h.be.drew, h.t.drew, h.g⟩
theorem QS.alloc {w W : World} {b : Nat} {op sz cd fr : Int} {d s : Opd} {ln : Int} (h : QS w W b op sz cd fr d s ln) (o : Obj) : QS w (W.alloc o) b op sz cd fr d s ln :=
  ⟨(Below.heap_alloc _ _ _ (lt_of_blk h.r)).trans h.r, (Below.heap_alloc _ _ _ (lt_of_blk h.z)).trans h.z, h.be.alloc h.be.size _, h.t.alloc _, h.g⟩
def stk (op : Int) : Bool := decide (op = 29 ∨ op = 30 ∨ op = 31 ∨ op = 34)
set_option maxHeartbeats 1000000 in
theorem usesC (op : Int) (w : World) : Calls Tryz.prog 16 #[.int .i64 op] w fun e w' => e = .returned (.bool (stk op)) ∧ w' = w := by
  unfold stk
  by_cases h : op = 29 ∨ op = 30 ∨ op = 31 ∨ op = 34
  · rw [decide_eq_true h]
    rcases h with rfl | rfl | rfl | rfl
    all_goals
      go_enter Tryz.func16, Tryz.ntmps16
      go_wp2
      go_ret
      exact ⟨rfl, rfl⟩
  · rw [decide_eq_false h]
    simp only [not_or] at h
    obtain ⟨h1, h2, h3, h4⟩ := h
    have h1 := beq_eq_false_iff_ne.mpr h1; have h2 := beq_eq_false_iff_ne.mpr h2; have h3 := beq_eq_false_iff_ne.mpr h3; have h4 := beq_eq_false_iff_ne.mpr h4
    go_enter Tryz.func16, Tryz.ntmps16
    go_wp2
    go_ret
    exact ⟨rfl, rfl⟩
def touV (b : Bool) (v : Value) (r wt st : Bool) : Array Value := if b then #[.agg #[v, .bool r, .bool wt, .bool st], .int .i64 0] else #[.agg #[.slice none 0 0, .bool false, .bool false, .bool false], .int .i64 1]
attribute [-go_sem] Instr.loadAt in
set_option maxRecDepth 100000 in
set_option maxHeartbeats 4000000 in
theorem touI (op sz cd fr : Int) (d s : Opd) (ln : Int) (w : World) (b : Bool) (CI : Hid (∀ W, Below w.heap.size w W → Calls Tryz.prog 13 #[.agg #[.int .i64 op, .int .i64 sz, .int .i64 cd, .int .i64 fr, .int .i64 d.k, .int .i64 d.r, .int .i64 d.b, .int .i64 d.i, .int .i64 d.s, .int .i64 d.d, .int .i64 d.m, .int .i64 s.k, .int .i64 s.r, .int .i64 s.b, .int .i64 s.i, .int .i64 s.s, .int .i64 s.d, .int .i64 s.m, .int .i64 ln]] W fun e w' => e = .returned (.bool b) ∧ Below W.heap.size W w')) (hrg : ∀ k, k ≠ -1 → (tget (toG ⟨op, sz, cd, fr, d, s, ln⟩) k).2 = true → 0 ≤ k ∧ k < 16) :
    Calls Tryz.prog 6 #[.agg #[.int .i64 op, .int .i64 sz, .int .i64 cd, .int .i64 fr, .int .i64 d.k, .int .i64 d.r, .int .i64 d.b, .int .i64 d.i, .int .i64 d.s, .int .i64 d.d, .int .i64 d.m, .int .i64 s.k, .int .i64 s.r, .int .i64 s.b, .int .i64 s.i, .int .i64 s.s, .int .i64 s.d, .int .i64 s.m, .int .i64 ln]] w fun e w' => ∃ v, e = .returned (.tuple (touV b v (tget (toG ⟨op, sz, cd, fr, d, s, ln⟩) (-1)).1 (tget (toG ⟨op, sz, cd, fr, d, s, ln⟩) (-1)).2 (stk op))) ∧ w'.ownsRow w.heap.size 3 1 v (if b then (regL (fun i => (tget (toG ⟨op, sz, cd, fr, d, s, ln⟩) (i : Int)).2) 16) else []).length ((if b then (regL (fun i => (tget (toG ⟨op, sz, cd, fr, d, s, ln⟩) (i : Int)).2) 16) else []).map (fun i => .int .i64 i)) ∧ Below w.heap.size w w' := by
  have R0 := Lib.hid (show (((w.alloc (.cells #[.int .i64 op, .int .i64 sz, .int .i64 cd, .int .i64 fr, .int .i64 d.k, .int .i64 d.r, .int .i64 d.b, .int .i64 d.i, .int .i64 d.s, .int .i64 d.d, .int .i64 d.m, .int .i64 s.k, .int .i64 s.r, .int .i64 s.b, .int .i64 s.i, .int .i64 s.s, .int .i64 s.d, .int .i64 s.m, .int .i64 ln] 33)).alloc (.cells #[.slice none 0 0, .bool false, .bool false, .bool false] 28))).heap[w.heap.size]? = some (.cells #[.int .i64 op, .int .i64 sz, .int .i64 cd, .int .i64 fr, .int .i64 d.k, .int .i64 d.r, .int .i64 d.b, .int .i64 d.i, .int .i64 d.s, .int .i64 d.d, .int .i64 d.m, .int .i64 s.k, .int .i64 s.r, .int .i64 s.b, .int .i64 s.i, .int .i64 s.s, .int .i64 s.d, .int .i64 s.m, .int .i64 ln] 33 (0, 0)) from (Below.heap_alloc _ _ _ (by simp)).trans (heap_alloc_new w _))
  have Z0 := Lib.hid (show (((w.alloc (.cells #[.int .i64 op, .int .i64 sz, .int .i64 cd, .int .i64 fr, .int .i64 d.k, .int .i64 d.r, .int .i64 d.b, .int .i64 d.i, .int .i64 d.s, .int .i64 d.d, .int .i64 d.m, .int .i64 s.k, .int .i64 s.r, .int .i64 s.b, .int .i64 s.i, .int .i64 s.s, .int .i64 s.d, .int .i64 s.m, .int .i64 ln] 33)).alloc (.cells #[.slice none 0 0, .bool false, .bool false, .bool false] 28))).heap[w.heap.size + 1]? = some (.cells #[.slice none 0 0, .bool false, .bool false, .bool false] 28 (0, 0)) from by simpa using heap_alloc_new (w.alloc (.cells #[.int .i64 op, .int .i64 sz, .int .i64 cd, .int .i64 fr, .int .i64 d.k, .int .i64 d.r, .int .i64 d.b, .int .i64 d.i, .int .i64 d.s, .int .i64 d.d, .int .i64 d.m, .int .i64 s.k, .int .i64 s.r, .int .i64 s.b, .int .i64 s.i, .int .i64 s.s, .int .i64 s.d, .int .i64 s.m, .int .i64 ln] 33)) (.cells #[.slice none 0 0, .bool false, .bool false, .bool false] 28))
  have B0 := Lib.hid (show Below w.heap.size w ((w.alloc (.cells #[.int .i64 op, .int .i64 sz, .int .i64 cd, .int .i64 fr, .int .i64 d.k, .int .i64 d.r, .int .i64 d.b, .int .i64 d.i, .int .i64 d.s, .int .i64 d.d, .int .i64 d.m, .int .i64 s.k, .int .i64 s.r, .int .i64 s.b, .int .i64 s.i, .int .i64 s.s, .int .i64 s.d, .int .i64 s.m, .int .i64 ln] 33)).alloc (.cells #[.slice none 0 0, .bool false, .bool false, .bool false] 28)) from ((Below.refl _ _).alloc (Nat.le_refl _) _).alloc (by simp) _)
  have CT := Lib.hid (touchesC ⟨op, sz, cd, fr, d, s, ln⟩)
  have CU := Lib.hid (usesC op)
  obtain ⟨rr, hrr⟩ : ∃ r, r = tany (tand (tget (toG ⟨op, sz, cd, fr, d, s, ln⟩) (-1)) (true, false)) := ⟨_, rfl⟩
  obtain ⟨wt, hwt⟩ : ∃ r, r = tany (tand (tget (toG ⟨op, sz, cd, fr, d, s, ln⟩) (-1)) (false, true)) := ⟨_, rfl⟩
  obtain ⟨st, hst⟩ : ∃ r, r = stk op := ⟨_, rfl⟩
  rw [← hst] at CU
  have HRR := Lib.hid hrr; have HWT := Lib.hid hwt; have HST := Lib.hid hst
  clear hrr hwt hst
  go_enter Tryz.func6, Tryz.ntmps6
  go_wp2_with (first | refine wpList_load_row rfl 33 (.tmp 1) rfl w.heap.size rfl 33 #[.int .i64 op, .int .i64 sz, .int .i64 cd, .int .i64 fr, .int .i64 d.k, .int .i64 d.r, .int .i64 d.b, .int .i64 d.i, .int .i64 d.s, .int .i64 d.d, .int .i64 d.m, .int .i64 s.k, .int .i64 s.r, .int .i64 s.b, .int .i64 s.i, .int .i64 s.s, .int .i64 s.d, .int .i64 s.m, .int .i64 ln] (0, 0) _ R0.out Tryz.underlying33 rfl (by kernel_rfl) ?_ | refine load_rowT (by rfl) 33 (.tmp 1) rfl w.heap.size rfl 33 #[.int .i64 op, .int .i64 sz, .int .i64 cd, .int .i64 fr, .int .i64 d.k, .int .i64 d.r, .int .i64 d.b, .int .i64 d.i, .int .i64 d.s, .int .i64 d.d, .int .i64 d.m, .int .i64 s.k, .int .i64 s.r, .int .i64 s.b, .int .i64 s.i, .int .i64 s.s, .int .i64 s.d, .int .i64 s.m, .int .i64 ln] (0, 0) _ R0.out Tryz.underlying33 rfl (by kernel_rfl) ?_)
  refine (CI.out _ B0.out).mono ?_
  rintro e w1 ⟨rfl, hb⟩
  have B1 := Lib.hid (B0.out.trans (hb.mono B0.out.size))
  have R1 := Lib.hid ((hb.block _ (lt_of_blk R0.out)).trans R0.out)
  have Z1 := Lib.hid ((hb.block _ (lt_of_blk Z0.out)).trans Z0.out)
  clear hb
  cases b
  · go_wp2_with (first | (refine wpList_store_row rfl 28 (.tmp 2) (.tmp 9) rfl (w.heap.size + 1) #[.slice none 0 0, .bool false, .bool false, .bool false] rfl rfl 28 _ Z1.out (by kernel_rfl) rfl (by kernel_rfl) ?_))
    refine bodyPost_ret (v := .tuple #[.agg #[.slice none 0 0, .bool false, .bool false, .bool false], .int .i64 1]) (by exact results_cell_row2 Tryz.results6 _ _ (w.heap.size + 1) 28 #[.slice none 0 0, .bool false, .bool false, .bool false] (0, 0) _ rfl (setRow_heap _ _ _ _ _ _ Z1.out) Tryz.underlying28 rfl (by kernel_rfl)) (by rfl) ⟨_, rfl, World.ownsRow_nil _ _ _ _, Go.below_setRow B1.out (by omega) _⟩
  · go_wp2_with (first | refine wpList_load_row rfl 33 (.tmp 1) rfl w.heap.size rfl 33 #[.int .i64 op, .int .i64 sz, .int .i64 cd, .int .i64 fr, .int .i64 d.k, .int .i64 d.r, .int .i64 d.b, .int .i64 d.i, .int .i64 d.s, .int .i64 d.d, .int .i64 d.m, .int .i64 s.k, .int .i64 s.r, .int .i64 s.b, .int .i64 s.i, .int .i64 s.s, .int .i64 s.d, .int .i64 s.m, .int .i64 ln] (0, 0) _ R1.out Tryz.underlying33 rfl (by kernel_rfl) ?_ | refine load_rowT (by rfl) 33 (.tmp 1) rfl w.heap.size rfl 33 #[.int .i64 op, .int .i64 sz, .int .i64 cd, .int .i64 fr, .int .i64 d.k, .int .i64 d.r, .int .i64 d.b, .int .i64 d.i, .int .i64 d.s, .int .i64 d.d, .int .i64 d.m, .int .i64 s.k, .int .i64 s.r, .int .i64 s.b, .int .i64 s.i, .int .i64 s.s, .int .i64 s.d, .int .i64 s.m, .int .i64 ln] (0, 0) _ R1.out Tryz.underlying33 rfl (by kernel_rfl) ?_)
    refine (CT.out _).mono ?_
    rintro e w2 ⟨rfl, T2⟩
    have hb := T2.be
    have B2 := Lib.hid (B1.out.trans (hb.mono B1.out.size))
    have R2 := Lib.hid ((hb.block _ (lt_of_blk R1.out)).trans R1.out)
    have Z2 := Lib.hid ((hb.block _ (lt_of_blk Z1.out)).trans Z1.out)
    have HT := Lib.hid T2
    clear hb T2
    have CH1 := fun W (h : TM W (w1.heap.size + 1) 5 (toG ⟨op, sz, cd, fr, d, s, ln⟩)) => hasC (true, false) (-1) (by decide) (w1.heap.size + 1) 5 _ W h
    unfold tnum at CH1
    simp only [reduceIte, Bool.false_eq_true, Int.zero_add, Int.add_zero, Int.reduceAdd] at CH1
    rw [← HRR.out] at CH1
    have CH1 := Lib.hid CH1
    have CH2 := fun W (h : TM W (w1.heap.size + 1) 5 (toG ⟨op, sz, cd, fr, d, s, ln⟩)) => hasC (false, true) (-1) (by decide) (w1.heap.size + 1) 5 _ W h
    unfold tnum at CH2
    simp only [reduceIte, Bool.false_eq_true, Int.zero_add, Int.add_zero, Int.reduceAdd] at CH2
    rw [← HWT.out] at CH2
    have CH2 := Lib.hid CH2
    have c0 := cell_of_row _ _ 0 _ _ _ R2.out
    simp only [List.getElem?_toArray, List.getElem?_cons_zero, List.getElem?_cons_succ] at c0
    have c0d : w2.drew.cell? ⟨w.heap.size, 0, none⟩ = some (.int .i64 op) := c0
    go_wp2_with fail
    have q0 : QS w w2 (w1.heap.size + 1) op sz cd fr d s ln := ⟨R2.out, Z2.out, B2.out, HT.out.t, by have := lt_of_blk Z1.out; omega⟩
    have HL : ∀ u, QS w u (w1.heap.size + 1) op sz cd fr d s ln → (Instr.loadAt 3 (.pointer (some ⟨w.heap.size, 0, none⟩))).run Tryz.prog u = .ok (.int .i64 op) u := fun u h => load_int u _ _ _ (cell_of_row _ _ 0 _ _ _ h.r)
    go_region_held3 (fun W' => QS w W' (w1.heap.size + 1) op sz cd fr d s ln) (first | assumption | (exact QS.drew (by assumption)) | (exact QS.alloc (by assumption) _) | (exact QS.alloc (QS.drew (by assumption)) _)) (first | (go_at_call 15; (with_reducible refine Calls.mono (CH1.out _ (QS.t (by assumption))) ?_); rintro e w3 ⟨rfl, rfl⟩) | (go_at_call 15; (with_reducible refine Calls.mono (CH2.out _ (QS.t (by assumption))) ?_); rintro e w3 ⟨rfl, rfl⟩) | (go_at_call 16; (with_reducible refine Calls.mono (CU.out _) ?_); rintro e w3 ⟨rfl, rfl⟩))
    all_goals
      have Q4 := Lib.hid (show QS w (w2.alloc (.cells #[.slice none 0 0, .bool rr, .bool wt, .bool st] 28)).drew (w1.heap.size + 1) op sz cd fr d s ln from (QS.alloc q0 _).drew)
      have P4 := Lib.hid (show ((w2.alloc (.cells #[.slice none 0 0, .bool rr, .bool wt, .bool st] 28)).drew).heap[w2.heap.size]? = some (.cells #[.slice none 0 0, .bool rr, .bool wt, .bool st] 28 (0, 0)) from heap_alloc_new w2 _)
      clear HL
      generalize (w2.alloc (.cells #[.slice none 0 0, .bool rr, .bool wt, .bool st] 28)).drew = w4 at *
      have CW := Lib.hid (writtenL (w1.heap.size + 1) 5 (toG ⟨op, sz, cd, fr, d, s, ln⟩) w4 Q4.out.t (by omega) hrg)
      go_wp2_with fail
      refine (CW.out).mono ?_
      rintro e w5 ⟨v, rfl, hO, hG⟩
      obtain ⟨pv, cv, rfl⟩ := form_ownT hO
      obtain ⟨nv, hnv⟩ : ∃ n, n = (regL (fun i => (tget (toG ⟨op, sz, cd, fr, d, s, ln⟩) (i : Int)).2) 16).length := ⟨_, rfl⟩
      rw [← hnv] at hO ⊢
      have HNV := Lib.hid hnv
      clear hnv
      have hb1 : w1.heap.size + 1 < w2.heap.size := HT.out.t.lt
      have hb0 := lt_of_blk Z1.out
      have hl4 := lt_of_blk P4.out
      have Z5 := Lib.hid ((hG.block _ (lt_of_blk Q4.out.z) (by intro e; have := Option.some.inj e; omega)).trans Q4.out.z)
      have P5 := Lib.hid ((hG.block _ hl4 (by intro e; have := Option.some.inj e; omega)).trans P4.out)
      have B5 := Lib.hid (Q4.out.be.grown hG Q4.out.be.size (fun k hk => by have := Option.some.inj hk; omega))
      have p0 := cell_of_row _ _ 0 _ _ _ P5.out
      have f0 : w5.frozen? ⟨w2.heap.size, 0, none⟩ = false := by have := P5.out; simp [World.frozen?, this]
      simp only [List.getElem?_toArray, List.getElem?_cons_zero, List.getElem?_cons_succ] at p0
      have P6 := Lib.hid (show (w5.setCell ⟨w2.heap.size, 0, none⟩ (.slice pv nv cv)).heap[w2.heap.size]? = some (.cells #[.slice pv nv cv, .bool rr, .bool wt, .bool st] 28 (0, 0)) by have := P5.out; simp [World.setCell, Array.getElem?_modify, this])
      have Z6 := Lib.hid ((Below.heap_setCell w5 ⟨w2.heap.size, 0, none⟩ (.slice pv nv cv) (w.heap.size + 1) (by show w.heap.size + 1 ≠ w2.heap.size; omega)).trans Z5.out)
      have B6 := Lib.hid (show Below w.heap.size w (w5.setCell ⟨w2.heap.size, 0, none⟩ (.slice pv nv cv)) from B5.out.setCell (by show w.heap.size ≤ w2.heap.size; omega) _)
      have HO := Lib.hid hO
      have HG := Lib.hid hG
      clear hO hG
      go_wp2_with (first | (refine wpList_load_row rfl 28 (.tmp 5) rfl w2.heap.size rfl 28 #[.slice pv nv cv, .bool rr, .bool wt, .bool st] (0, 0) _ P6.out Tryz.underlying28 rfl (by kernel_rfl) ?_) | (refine wpList_store_row rfl 28 (.tmp 2) (.tmp 23) rfl (w.heap.size + 1) #[.slice pv nv cv, .bool rr, .bool wt, .bool st] rfl rfl 28 _ Z6.out (by kernel_rfl) rfl (by kernel_rfl) ?_))
      refine bodyPost_ret (v := .tuple #[.agg #[.slice pv nv cv, .bool rr, .bool wt, .bool st], .int .i64 0]) (by exact results_cell_row2 Tryz.results6 _ _ (w.heap.size + 1) 28 #[.slice pv nv cv, .bool rr, .bool wt, .bool st] (0, 0) _ rfl (setRow_heap _ _ _ _ _ _ Z6.out) Tryz.underlying28 rfl (by kernel_rfl)) (by rfl) ⟨.slice pv nv cv, ?_, ?_, Go.below_setRow B6.out (by omega) _⟩
      · rw [show (tget (toG ⟨op, sz, cd, fr, d, s, ln⟩) (-1)).1 = rr from by rw [HRR.out, tany_1], show (tget (toG ⟨op, sz, cd, fr, d, s, ln⟩) (-1)).2 = wt from by rw [HWT.out, tany_2], ← HST.out]; rfl
      · rw [← HNV.out]; exact own_keptT (own_keptT (Joins.ownsRow_le HO.out Q4.out.be.size) (fun k hk => Below.heap_setCell _ _ _ _ (by have := (HO.out.lt k hk).1; show k ≠ w2.heap.size; omega))) (fun k hk => setRow_other (by have := (HO.out.lt k hk).1; omega))
def rdS (op : Int) (t0 t1 : Bool) : Bool := decide (op = 30 ∨ op = 34 ∨ op = 42) || ((t1 && (op != 25)) || (t0 && ((op != 9) && ((op != 35) && (op != 30)))))
def wtS (op : Int) (t0 wr : Bool) : Bool := decide (op = 29 ∨ op = 31 ∨ op = 41 ∨ op = 42) || (t0 && wr)
end Go.Proofs.YtjnjlgaemmdkhaaGreatDoor
