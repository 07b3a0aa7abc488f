/-
  impl.Box's read and write; conditions: those in each head.
  impl.Box's write; conditions: those in each head.
  The pages that the heap grows by: one behind the other, those that are there left out; no condition but those in each head.
  impl.Box's filled: all pages that a heap of another length asks for; conditions: those in each head.
  impl.Box's grow; conditions: those in each head.
  A map of which each entry is known: what is put in and what is looked up. No program; no condition but those in each head.
  impl.Box's services and answer; conditions: those in each head.
  impl's called: a box with memory of its own, of which a service may be asked; conditions: those in each head.
  impl.Answer; conditions: those in each head.
-/
import Derived.Test.YtbkgmpkednkbcaaGreatDoorMathSv
import Derived.Test.YtbkgmpkednkbcaaGreatDoorWalkKx
import Derived.Test.YtbkgmpkednkbcaaGreatDoorWalkAddL
import Derived.Test.YtbkgmpkednkbcaaGreatDoorProg
import Derived.WalkKit
import Derived.Maps.OwnSet
import Derived.Lib.Hide
namespace Go.Proofs.YtbkgmpkednkbcaaGreatDoor
open Go.RowKit Go.Sort
set_option linter.unusedVariables false
set_option linter.unusedSimpArgs false
def AnyV : World → Value → Prop := fun _ _ => True
theorem AnyV.mono {B g : Nat} (hg : g < B) {w w' : World} {v : Value} (he : w.grownBy w' (some g)) (h : AnyV w v) : AnyV w' v := trivial
theorem owns_far {w w' : World} {B g : Nat} {p : Option Addr} {c : Nat} {l : List Pg} (h : Owns w B p c l) (hg : g < B) (he : w.grownBy w' (some g)) : Owns w' B p c l := by
  refine World.ownsRow.kept h he ?_
  cases hb : (Value.slice p l.length c).ownBlock with
  | none => exact .inl rfl
  | some j =>
    refine .inr fun e => ?_
    obtain rfl := Option.some.inj e
    have := (h.lt _ hb).1
    omega
/-- what PutBytes answers -/
def PutTup (B : Nat) (l : List Pg) (a : Int) (t : ByteArray) (w : World) (v : Value) : Prop := ∃ l' p' c' k, v = .tuple #[.agg #[.slice p' l'.length c'], .int .i64 k] ∧ PutOut l a t l' k ∧ Owns w B p' c' l'
theorem PutTup.mono {B g : Nat} (hg : g < B) {l : List Pg} {a : Int} {t : ByteArray} {w w' : World} {v : Value} (he : w.grownBy w' (some g)) (h : PutTup B l a t w v) : PutTup B l a t w' v := by
  obtain ⟨l', p', c', k, e, h1, h2⟩ := h
  exact ⟨l', p', c', k, e, h1, owns_far h2 hg he⟩
def PutMem (B : Nat) (l : List Pg) (a : Int) (t : ByteArray) (w : World) (v : Value) : Prop := ∃ l' p' c', v = .agg #[.slice p' l'.length c'] ∧ ∃ k, PutOut l a t l' k ∧ Owns w B p' c' l'
theorem PutMem.mono {B g : Nat} (hg : g < B) {l : List Pg} {a : Int} {t : ByteArray} {w w' : World} {v : Value} (he : w.grownBy w' (some g)) (h : PutMem B l a t w v) : PutMem B l a t w' v := by
  obtain ⟨l', p', c', e, k, h1, h2⟩ := h
  exact ⟨l', p', c', e, k, h1, owns_far h2 hg he⟩
/-- while new pages are put into a box: which it has, by whether they have been stored -/
def PutC (W : World) (B g : Nat) (b : Bo) (p : Option Addr) (c : Nat) (l : List Pg) (Y : List Pg → Prop) (d : Bool) (w : World) : Prop := W.grownBy w (some g) ∧ (d = false → BH B g b p c l w ∧ B ≤ w.heap.size) ∧ (d = true → ∃ l' p' c', Y l' ∧ BH B g b p' c' l' w)
theorem PutC.next {W w w' : World} {B g : Nat} {b : Bo} {p : Option Addr} {c : Nat} {l : List Pg} {Y : List Pg → Prop} (h : PutC W B g b p c l Y false w) (hb : Below w.heap.size w w') : PutC W B g b p c l Y false w' :=
  ⟨gb_then h.1 (gb_below hb _), fun _ => ⟨(h.2.1 rfl).1.below hb, Nat.le_trans (h.2.1 rfl).2 hb.size⟩, fun e => by cases e⟩
theorem PutC.put {W w : World} {B g : Nat} {b : Bo} {p p' : Option Addr} {c c' : Nat} {l l' : List Pg} {Y : List Pg → Prop} (h : PutC W B g b p c l Y false w) (hy : Y l') (ho : Owns w B p' c' l') : PutC W B g b p c l Y true (w.setCell ⟨g, 18, none⟩ (.slice p' l'.length c')) :=
  ⟨gb_then h.1 (gbSet _ _ _ _), fun e => (by cases e), fun _ => ⟨l', p', c', hy, ⟨row_set (h.2.1 rfl).1.x 18 _ (by rfl), owns_other ho (h.2.1 rfl).1.n 18 _, (h.2.1 rfl).1.n⟩⟩⟩
set_option maxHeartbeats 8000000 in
set_option maxRecDepth 100000 in
theorem readC (B g : Nat) (b : Bo) (p : Option Addr) (c : Nat) (l : List Pg) (W : World) (h : BH B g b p c l W) (hB : B ≤ W.heap.size) (hm0 : MemOk l) (hs0 : Small l) (ha : 0 ≤ b.at_ ∧ b.at_ ≤ b.inp.size) (hi : b.inp.size ≤ 1024) :
    Calls Tryz.prog 73 #[.pointer (some ⟨g, 0, none⟩)] W fun e w' => ∃ b' l' v, e = .returned (.int .i64 v) ∧ Hid (SvRd b l b' l' v) ∧ SvTo B g W w' b' l' := by
  have hm := mixed
  have CH := Lib.hid (hasC B g b p c l 2 W h hm0 hs0 (by unfold PermOk; omega))
  have CQ := Lib.hid (fun W c6 => boxQ g (b.c.rs 6) W c6)
  obtain ⟨A, eA⟩ : ∃ A : Nat, b.at_ = (A : Int) := ⟨b.at_.toNat, by omega⟩
  have hq := qN_b b
  obtain ⟨K, eK⟩ : ∃ K : Nat, rdK b = (K : Int) := ⟨(rdK b).toNat, by unfold rdK; omega⟩
  have hK : A + K ≤ b.inp.size := by have : rdK b ≤ (b.inp.size : Int) - b.at_ := by unfold rdK; omega
                                     omega
  have hKq : (K : Int) ≤ qN b := by have : rdK b ≤ qN b := by unfold rdK; omega
                                    omega
  have eT : rdT b = b.inp.extract A (A + K) := by unfold rdT; rw [eA, eK]; congr 1
  have hts : (rdT b).size = K := by rw [eT, ByteArray.size_extract]; omega
  have hlt := lt_of_blk' h.x
  have H := Lib.hid h
  clear h
  go_enter Tryz.func73, Tryz.ntmps73
  go_wp2_with fail
  refine (CH.out).mono ?_
  rintro e w1 ⟨⟨r, rfl, HR⟩, b1⟩
  have h1 := H.out.below b1
  have G1 := Lib.hid (gb_below b1 (some g))
  have hB1 : B ≤ w1.heap.size := Nat.le_trans hB b1.size
  clear b1 CH H
  cases r with
  | false =>
    have hr := HR.out
    clear HR
    go_wp2
    go_ret
    exact ⟨b, l, _, rfl, Lib.hid (.inl ⟨fun hy => (by simpa using hr.2 hy), rfl, rfl, rfl⟩), ⟨_, _, h1⟩, G1.out⟩
  | true =>
  have HY : Hid (SpYes l (pN b) (qN b) 2) := Lib.hid (HR.out.1 (by trivial))
  have x6 := h1.cell 6 (.int .i64 (b.c.rs 6)) rfl
  have x21 := h1.cell 21 (.string b.inp) rfl
  have x22 : w1.cell? ⟨g, 22, none⟩ = some (.int .i64 (A : Int)) := (h1.cell 22 (.int .i64 b.at_) rfl).trans (by rw [eA])
  have x6d : w1.drew.cell? ⟨g, 6, none⟩ = some (.int .i64 (b.c.rs 6)) := x6
  have eM : min (b.c.rs 6 % 4294967296) ((b.inp.size : Int) - (A : Int)) = (K : Int) := by rw [← eA]; exact eK
  have eS : IntKind.i64.wrap ((b.inp.size : Int) - (A : Int)) = (b.inp.size : Int) - A := IntWalk.i64_in _ (by omega)
  have H1 := Lib.hid h1
  have EA := Lib.hid eA; have HKS := Lib.hid hK; have ET := Lib.hid eT; have HTS := Lib.hid hts; have EKK := Lib.hid eK; have HKQ := Lib.hid hKq
  have HA := Lib.hid ha; have HI := Lib.hid hi; have HLT := Lib.hid hlt; have HB1 := Lib.hid hB1; have HQ := Lib.hid hq
  clear HR h1 eA hK eT hts eK hKq ha hi hlt hB hB1 hq
  go_wp2_with fail
  go_region_held3 (fun w' => w'.cell? ⟨g, 6, none⟩ = some (.int .i64 (b.c.rs 6)) ∧ w'.cell? ⟨g, 21, none⟩ = some (.string b.inp) ∧ w'.cell? ⟨g, 22, none⟩ = some (.int .i64 (A : Int))) (first | (with_reducible exact ⟨x6, x21, x22⟩) | (exact ⟨x6, x21, x22⟩) | go_keep) (first | (go_at_call 95; (with_reducible refine Calls.mono (CQ.out _ x6d) ?_); rintro e w2 ⟨rfl, rfl⟩))
  rename_i W1
  have hC0 : PutC W B g b p c l (fun l' => ∃ k, PutOut l (16384 + pN b) (rdT b) l' k) false w1.drew.drew := ⟨gb_then G1.out (gb_below ((below_drew1 w1).trans (below_drew1 w1.drew)) _), fun _ => ⟨(H1.out.below (below_drew1 w1)).below (below_drew1 w1.drew), HB1.out⟩, fun e => by cases e⟩
  have hgB := H1.out.n
  have hq := HQ.out; have hts := HTS.out; have hKS := HKS.out; have hI := HI.out
  have ht9 : (rdT b).size ≤ 9223372036854775807 := by omega
  have eP : IntKind.i64.wrap (16384 + pN b) = 16384 + pN b := IntWalk.i64_in _ (by have := pN_b b; omega)
  have eAK : IntKind.i64.wrap ((A : Int) + (K : Int)) = (A : Int) + (K : Int) := IntWalk.i64_in _ (by omega)
  go_upto_region 4 with fail
  refine wp_region_kv (fun w w' => w.grownBy w' (some g)) (PutC W B g b p c l (fun l' => ∃ k, PutOut l (16384 + pN b) (rdT b) l' k)) 29 [fun _ v => v = .pointer (some ⟨g, 0, none⟩), fun _ v => v = .pointer (some ⟨g, 0, none⟩), fun _ v => v = .pointer (some ⟨g, 0, none⟩), fun _ v => v = .pointer (some ⟨g, 18, none⟩), fun _ v => v = .agg #[.slice p l.length c], fun _ v => v = .pointer (some ⟨g, 0, none⟩), fun _ v => v = .int .i64 (pN b), fun _ v => v = .int .i64 (16384 + pN b), fun _ v => v = .pointer (some ⟨g, 0, none⟩), fun _ v => v = .pointer (some ⟨g, 0, none⟩), fun _ v => v = .pointer (some ⟨g, 21, none⟩), fun _ v => v = .string b.inp, fun _ v => v = .pointer (some ⟨g, 0, none⟩), fun _ v => v = .pointer (some ⟨g, 0, none⟩), fun _ v => v = .pointer (some ⟨g, 22, none⟩), fun _ v => v = .int .i64 (A : Int), fun _ v => v = .pointer (some ⟨g, 0, none⟩), fun _ v => v = .pointer (some ⟨g, 0, none⟩), fun _ v => v = .pointer (some ⟨g, 22, none⟩), fun _ v => v = .int .i64 (A : Int), fun _ v => v = .int .i64 (K : Int), fun _ v => v = .int .i64 ((A : Int) + (K : Int)), fun _ v => v = .string (rdT b), PutTup B l (16384 + pN b) (rdT b), PutTup B l (16384 + pN b) (rdT b), PutMem B l (16384 + pN b) (rdT b), AnyV, fun _ v => v = .pointer (some ⟨g, 0, none⟩), fun _ v => v = .pointer (some ⟨g, 18, none⟩), fun _ _ => True] hm (by rfl) (by kernel_rfl) (by kernel_rfl) (by kernel_rfl) (by kernel_rfl) (by decide) ?_ ?_ ?_ ?_
  · exact hC0
  · intro j V hV w1 w2 v he h
    have hm := List.mem_of_getElem? hV
    simp only [List.mem_cons, List.not_mem_nil, or_false] at hm
    rcases hm with rfl | rfl | rfl | rfl | rfl | rfl | rfl | rfl | rfl | rfl | rfl | rfl | rfl | rfl | rfl | rfl | rfl | rfl | rfl | rfl | rfl | rfl | rfl | rfl | rfl | rfl | rfl | rfl | rfl | rfl
    all_goals first | exact h | exact AnyV.mono hgB he h | exact PutMem.mono hgB he h | exact PutTup.mono hgB he h
  · intro i hi o V ho hV d a wx hC hj hd0 hs hd
    have hi' : i = 0 ∨ i = 1 ∨ i = 2 ∨ i = 3 ∨ i = 4 ∨ i = 5 ∨ i = 6 ∨ i = 7 ∨ i = 8 ∨ i = 9 ∨ i = 10 ∨ i = 11 ∨ i = 12 ∨ i = 13 ∨ i = 14 ∨ i = 15 ∨ i = 16 ∨ i = 17 ∨ i = 18 ∨ i = 19 ∨ i = 20 ∨ i = 21 ∨ i = 22 ∨ i = 23 ∨ i = 24 ∨ i = 25 ∨ i = 26 ∨ i = 27 ∨ i = 28 ∨ i = 29 := by simp at hi; omega
    clear hi
    rcases hi' with rfl | rfl | rfl | rfl | rfl | rfl | rfl | rfl | rfl | rfl | rfl | rfl | rfl | rfl | rfl | rfl | rfl | rfl | rfl | rfl | rfl | rfl | rfl | rfl | rfl | rfl | rfl | rfl | rfl | rfl
    all_goals obtain rfl := Option.some.inj ho
    all_goals obtain rfl := Option.some.inj hV
    · obtain rfl : d = false := dF hd0 (by kernel_rfl)
      obtain ⟨h1, hBs⟩ := hC.2.1 rfl
      have e0 := slotW (v := .pointer (some ⟨g, 0, none⟩)) hs (k := 0) (noDstW (by kernel_rfl)) rfl
      go_simp
      exact ⟨gb_refl _ _, hC, rfl⟩
    · obtain rfl : d = false := dF hd0 (by kernel_rfl)
      obtain ⟨h1, hBs⟩ := hC.2.1 rfl
      have e0 := slotW (v := .pointer (some ⟨g, 0, none⟩)) hs (k := 0) (noDstW (by kernel_rfl)) rfl
      go_simp
      exact ⟨gb_refl _ _, hC, rfl⟩
    · obtain rfl : d = false := dF hd0 (by kernel_rfl)
      obtain ⟨h1, hBs⟩ := hC.2.1 rfl
      have e22 := getX (show a.tmps.getD 22 undef = .pointer (some ⟨g, 0, none⟩) from hd ⟨1, .data⟩ (by simp) rfl _ _ _ rfl rfl rfl)
      go_simp
      exact ⟨gb_refl _ _, hC, rfl⟩
    · obtain rfl : d = false := dF hd0 (by kernel_rfl)
      obtain ⟨h1, hBs⟩ := hC.2.1 rfl
      have e23 := getX (show a.tmps.getD 23 undef = .pointer (some ⟨g, 0, none⟩) from hd ⟨2, .data⟩ (by simp) rfl _ _ _ rfl rfl rfl)
      go_simp
      exact ⟨gb_refl _ _, hC, rfl⟩
    · obtain rfl : d = false := dF hd0 (by kernel_rfl)
      obtain ⟨h1, hBs⟩ := hC.2.1 rfl
      have e24 := getX (show a.tmps.getD 24 undef = .pointer (some ⟨g, 18, none⟩) from hd ⟨3, .data⟩ (by simp) rfl _ _ _ rfl rfl rfl)
      have hc := h1.cell 18 (.slice p l.length c) rfl
      go_simp
      exact ⟨gb_refl _ _, hC, rfl⟩
    · obtain rfl : d = false := dF hd0 (by kernel_rfl)
      obtain ⟨h1, hBs⟩ := hC.2.1 rfl
      have e0 := slotW (v := .pointer (some ⟨g, 0, none⟩)) hs (k := 0) (noDstW (by kernel_rfl)) rfl
      go_simp
      exact ⟨gb_refl _ _, hC, rfl⟩
    · obtain rfl : d = false := dF hd0 (by kernel_rfl)
      obtain ⟨h1, hBs⟩ := hC.2.1 rfl
      have e26 := getX (show a.tmps.getD 26 undef = .pointer (some ⟨g, 0, none⟩) from hd ⟨5, .data⟩ (by simp) rfl _ _ _ rfl rfl rfl)
      have x7 := h1.cell 7 (.int .i64 (b.c.rs 7)) rfl
      refine callKV (vals := #[.pointer (some ⟨g, 0, none⟩)]) rfl (by simp only [List.map_toArray, List.map_cons, List.map_nil, Act.eval, Array.getD_eq_getD_getElem?, e26]; try rfl) (by go_simp) ((boxP g (b.c.rs 7) wx x7).mono ?_)
      rintro e w' ⟨rfl, rfl⟩
      exact ⟨_, rfl, gb_refl _ _, hC, rfl⟩
    · obtain rfl : d = false := dF hd0 (by kernel_rfl)
      obtain ⟨h1, hBs⟩ := hC.2.1 rfl
      have e27 := getX (show a.tmps.getD 27 undef = .int .i64 (pN b) from hd ⟨6, .data⟩ (by simp) rfl _ _ _ rfl rfl rfl)
      go_simp
      exact ⟨gb_refl _ _, hC, rfl⟩
    · obtain rfl : d = false := dF hd0 (by kernel_rfl)
      obtain ⟨h1, hBs⟩ := hC.2.1 rfl
      have e0 := slotW (v := .pointer (some ⟨g, 0, none⟩)) hs (k := 0) (noDstW (by kernel_rfl)) rfl
      go_simp
      exact ⟨gb_refl _ _, hC, rfl⟩
    · obtain rfl : d = false := dF hd0 (by kernel_rfl)
      obtain ⟨h1, hBs⟩ := hC.2.1 rfl
      have e29 := getX (show a.tmps.getD 29 undef = .pointer (some ⟨g, 0, none⟩) from hd ⟨8, .data⟩ (by simp) rfl _ _ _ rfl rfl rfl)
      go_simp
      exact ⟨gb_refl _ _, hC, rfl⟩
    · obtain rfl : d = false := dF hd0 (by kernel_rfl)
      obtain ⟨h1, hBs⟩ := hC.2.1 rfl
      have e30 := getX (show a.tmps.getD 30 undef = .pointer (some ⟨g, 0, none⟩) from hd ⟨9, .data⟩ (by simp) rfl _ _ _ rfl rfl rfl)
      go_simp
      exact ⟨gb_refl _ _, hC, rfl⟩
    · obtain rfl : d = false := dF hd0 (by kernel_rfl)
      obtain ⟨h1, hBs⟩ := hC.2.1 rfl
      have e31 := getX (show a.tmps.getD 31 undef = .pointer (some ⟨g, 21, none⟩) from hd ⟨10, .data⟩ (by simp) rfl _ _ _ rfl rfl rfl)
      have hc := h1.cell 21 (.string b.inp) rfl
      go_simp
      exact ⟨gb_refl _ _, hC, rfl⟩
    · obtain rfl : d = false := dF hd0 (by kernel_rfl)
      obtain ⟨h1, hBs⟩ := hC.2.1 rfl
      have e0 := slotW (v := .pointer (some ⟨g, 0, none⟩)) hs (k := 0) (noDstW (by kernel_rfl)) rfl
      go_simp
      exact ⟨gb_refl _ _, hC, rfl⟩
    · obtain rfl : d = false := dF hd0 (by kernel_rfl)
      obtain ⟨h1, hBs⟩ := hC.2.1 rfl
      have e33 := getX (show a.tmps.getD 33 undef = .pointer (some ⟨g, 0, none⟩) from hd ⟨12, .data⟩ (by simp) rfl _ _ _ rfl rfl rfl)
      go_simp
      exact ⟨gb_refl _ _, hC, rfl⟩
    · obtain rfl : d = false := dF hd0 (by kernel_rfl)
      obtain ⟨h1, hBs⟩ := hC.2.1 rfl
      have e34 := getX (show a.tmps.getD 34 undef = .pointer (some ⟨g, 0, none⟩) from hd ⟨13, .data⟩ (by simp) rfl _ _ _ rfl rfl rfl)
      go_simp
      exact ⟨gb_refl _ _, hC, rfl⟩
    · obtain rfl : d = false := dF hd0 (by kernel_rfl)
      obtain ⟨h1, hBs⟩ := hC.2.1 rfl
      have e35 := getX (show a.tmps.getD 35 undef = .pointer (some ⟨g, 22, none⟩) from hd ⟨14, .data⟩ (by simp) rfl _ _ _ rfl rfl rfl)
      have hc := (show wx.cell? ⟨g, 22, none⟩ = some (.int .i64 (A : Int)) from (h1.cell 22 (.int .i64 b.at_) rfl).trans (by rw [EA.out]))
      go_simp
      exact ⟨gb_refl _ _, hC, rfl⟩
    · obtain rfl : d = false := dF hd0 (by kernel_rfl)
      obtain ⟨h1, hBs⟩ := hC.2.1 rfl
      have e0 := slotW (v := .pointer (some ⟨g, 0, none⟩)) hs (k := 0) (noDstW (by kernel_rfl)) rfl
      go_simp
      exact ⟨gb_refl _ _, hC, rfl⟩
    · obtain rfl : d = false := dF hd0 (by kernel_rfl)
      obtain ⟨h1, hBs⟩ := hC.2.1 rfl
      have e37 := getX (show a.tmps.getD 37 undef = .pointer (some ⟨g, 0, none⟩) from hd ⟨16, .data⟩ (by simp) rfl _ _ _ rfl rfl rfl)
      go_simp
      exact ⟨gb_refl _ _, hC, rfl⟩
    · obtain rfl : d = false := dF hd0 (by kernel_rfl)
      obtain ⟨h1, hBs⟩ := hC.2.1 rfl
      have e38 := getX (show a.tmps.getD 38 undef = .pointer (some ⟨g, 0, none⟩) from hd ⟨17, .data⟩ (by simp) rfl _ _ _ rfl rfl rfl)
      go_simp
      exact ⟨gb_refl _ _, hC, rfl⟩
    · obtain rfl : d = false := dF hd0 (by kernel_rfl)
      obtain ⟨h1, hBs⟩ := hC.2.1 rfl
      have e39 := getX (show a.tmps.getD 39 undef = .pointer (some ⟨g, 22, none⟩) from hd ⟨18, .data⟩ (by simp) rfl _ _ _ rfl rfl rfl)
      have hc := (show wx.cell? ⟨g, 22, none⟩ = some (.int .i64 (A : Int)) from (h1.cell 22 (.int .i64 b.at_) rfl).trans (by rw [EA.out]))
      go_simp
      exact ⟨gb_refl _ _, hC, rfl⟩
    · obtain rfl : d = false := dF hd0 (by kernel_rfl)
      obtain ⟨h1, hBs⟩ := hC.2.1 rfl
      have e3 := slotW (v := .int .i64 (K : Int)) hs (k := 3) (noDstW (by kernel_rfl)) rfl
      go_simp
      exact ⟨gb_refl _ _, hC, rfl⟩
    · obtain rfl : d = false := dF hd0 (by kernel_rfl)
      obtain ⟨h1, hBs⟩ := hC.2.1 rfl
      have e40 := getX (show a.tmps.getD 40 undef = .int .i64 (A : Int) from hd ⟨19, .data⟩ (by simp) rfl _ _ _ rfl rfl rfl)
      have e41 := getX (show a.tmps.getD 41 undef = .int .i64 (K : Int) from hd ⟨20, .data⟩ (by simp) rfl _ _ _ rfl rfl rfl)
      go_simp
      exact ⟨gb_refl _ _, hC, rfl⟩
    · obtain rfl : d = false := dF hd0 (by kernel_rfl)
      obtain ⟨h1, hBs⟩ := hC.2.1 rfl
      have e32 := getX (show a.tmps.getD 32 undef = .string b.inp from hd ⟨11, .data⟩ (by simp) rfl _ _ _ rfl rfl rfl)
      have e36 := getX (show a.tmps.getD 36 undef = .int .i64 (A : Int) from hd ⟨15, .data⟩ (by simp) rfl _ _ _ rfl rfl rfl)
      have e42 := getX (show a.tmps.getD 42 undef = .int .i64 ((A : Int) + (K : Int)) from hd ⟨21, .data⟩ (by simp) rfl _ _ _ rfl rfl rfl)
      have d1 : (0 : Int) ≤ (A : Int) + (K : Int) ∧ (A : Int) + (K : Int) ≤ (b.inp.size : Int) := by omega
      have d2 : (A : Int) ≤ (A : Int) + (K : Int) := by omega
      have d3 : ((A : Int) + (K : Int)).toNat = A + K := by omega
      go_simp
      exact ⟨gb_refl _ _, hC, by rw [ET.out]⟩
    · obtain rfl : d = false := dF hd0 (by kernel_rfl)
      obtain ⟨h1, hBs⟩ := hC.2.1 rfl
      have e25 := getX (show a.tmps.getD 25 undef = .agg #[.slice p l.length c] from hd ⟨4, .data⟩ (by simp) rfl _ _ _ rfl rfl rfl)
      have e28 := getX (show a.tmps.getD 28 undef = .int .i64 (16384 + pN b) from hd ⟨7, .data⟩ (by simp) rfl _ _ _ rfl rfl rfl)
      have e43 := getX (show a.tmps.getD 43 undef = .string (rdT b) from hd ⟨22, .data⟩ (by simp) rfl _ _ _ rfl rfl rfl)
      refine callKV (vals := #[.agg #[.slice p l.length c], .int .i64 (16384 + pN b), .string (rdT b)]) rfl (by simp only [List.map_toArray, List.map_cons, List.map_nil, Act.eval, Array.getD_eq_getD_getElem?, e25, e28, e43]; try rfl) (by go_simp) ((putI p c l (16384 + pN b) (rdT b) wx h1.o.ad hs0 (owns_rd h1.o) (by have := pN_b b; omega) (by have := pN_b b; omega) ht9).mono ?_)
      rintro e w' ⟨l', p', c', k, rfl, hpo, hof, b3⟩
      exact ⟨_, rfl, gb_below b3 _, hC.next b3, l', p', c', k, rfl, hpo.out, Joins.ownsRow_le hof.out hBs⟩
    · obtain rfl : d = false := dF hd0 (by kernel_rfl)
      obtain ⟨h1, hBs⟩ := hC.2.1 rfl
      have r44 : (PutTup B l (16384 + pN b) (rdT b)) wx (a.tmps.getD 44 undef) := hd ⟨23, .data⟩ (by simp) rfl _ _ _ rfl rfl rfl
      obtain ⟨l', p', c', k, e44, hr⟩ := r44
      have e44 := getX e44
      go_simp
      exact ⟨gb_refl _ _, hC, l', p', c', k, rfl, hr⟩
    · obtain rfl : d = false := dF hd0 (by kernel_rfl)
      obtain ⟨h1, hBs⟩ := hC.2.1 rfl
      have r20 : (PutTup B l (16384 + pN b) (rdT b)) wx (a.tmps.getD 20 undef) := hd ⟨24, .data⟩ (by simp) rfl _ _ _ rfl rfl rfl
      obtain ⟨l', p', c', k, e20, hr⟩ := r20
      have e20 := getX e20
      go_simp
      exact ⟨gb_refl _ _, hC, l', p', c', rfl, k, hr⟩
    · have r20 : (PutTup B l (16384 + pN b) (rdT b)) wx (a.tmps.getD 20 undef) := hd ⟨24, .data⟩ (by simp) rfl _ _ _ rfl rfl rfl
      obtain ⟨l', p', c', k, e20, hr⟩ := r20
      have e20 := getX e20
      go_simp
      exact ⟨gb_refl _ _, by cases d <;> exact hC, trivial⟩
    · obtain rfl : d = false := dF hd0 (by kernel_rfl)
      obtain ⟨h1, hBs⟩ := hC.2.1 rfl
      have e21 := getX (show a.tmps.getD 21 undef = .pointer (some ⟨g, 0, none⟩) from hd ⟨0, .data⟩ (by simp) rfl _ _ _ rfl rfl rfl)
      go_simp
      exact ⟨gb_refl _ _, hC, rfl⟩
    · obtain rfl : d = false := dF hd0 (by kernel_rfl)
      obtain ⟨h1, hBs⟩ := hC.2.1 rfl
      have e47 := getX (show a.tmps.getD 47 undef = .pointer (some ⟨g, 0, none⟩) from hd ⟨27, .data⟩ (by simp) rfl _ _ _ rfl rfl rfl)
      go_simp
      exact ⟨gb_refl _ _, hC, rfl⟩
    · obtain rfl : d = false := hj rfl
      obtain ⟨h1, hBs⟩ := hC.2.1 rfl
      have e48 := getX (show a.tmps.getD 48 undef = .pointer (some ⟨g, 18, none⟩) from hd ⟨28, .data⟩ (by simp) rfl _ _ _ rfl rfl rfl)
      have r45 : (PutMem B l (16384 + pN b) (rdT b)) wx (a.tmps.getD 45 undef) := hd ⟨25, .data⟩ (by simp) rfl _ _ _ rfl rfl rfl
      obtain ⟨l', p', c', e45, k, hpo, own⟩ := r45
      have e45 := getX e45
      have x18 := h1.cell 18 (.slice p l.length c) rfl
      have f18 := h1.free 18
      go_simp
      exact ⟨gbSet _ _ _ _, hC.put ⟨k, hpo⟩ own⟩
  intro a w3 hC hs hh
  have ea := same_litL hs [21, 22, 23, 24, 25, 26, 27, 28, 29, 30, 31, 32, 33, 34, 35, 36, 37, 38, 39, 40, 41, 42, 43, 44, 20, 45, 46, 47, 48] (by kernel_rfl) _ rfl
  simp only [List.foldl_cons, List.foldl_nil, List.set_cons_succ, List.set_cons_zero] at ea
  generalize a.tmps.getD 21 undef = y21 at ea
  generalize a.tmps.getD 22 undef = y22 at ea
  generalize a.tmps.getD 23 undef = y23 at ea
  generalize a.tmps.getD 24 undef = y24 at ea
  generalize a.tmps.getD 25 undef = y25 at ea
  generalize a.tmps.getD 26 undef = y26 at ea
  generalize a.tmps.getD 27 undef = y27 at ea
  generalize a.tmps.getD 28 undef = y28 at ea
  generalize a.tmps.getD 29 undef = y29 at ea
  generalize a.tmps.getD 30 undef = y30 at ea
  generalize a.tmps.getD 31 undef = y31 at ea
  generalize a.tmps.getD 32 undef = y32 at ea
  generalize a.tmps.getD 33 undef = y33 at ea
  generalize a.tmps.getD 34 undef = y34 at ea
  generalize a.tmps.getD 35 undef = y35 at ea
  generalize a.tmps.getD 36 undef = y36 at ea
  generalize a.tmps.getD 37 undef = y37 at ea
  generalize a.tmps.getD 38 undef = y38 at ea
  generalize a.tmps.getD 39 undef = y39 at ea
  generalize a.tmps.getD 40 undef = y40 at ea
  generalize a.tmps.getD 41 undef = y41 at ea
  generalize a.tmps.getD 42 undef = y42 at ea
  generalize a.tmps.getD 43 undef = y43 at ea
  generalize a.tmps.getD 44 undef = y44 at ea
  generalize a.tmps.getD 20 undef = y20 at ea
  generalize a.tmps.getD 45 undef = y45 at ea
  generalize a.tmps.getD 46 undef = y46 at ea
  generalize a.tmps.getD 47 undef = y47 at ea
  generalize a.tmps.getD 48 undef = y48 at ea
  clear hh hs
  subst ea
  obtain ⟨l', p', c', ⟨k, hpo⟩, h3⟩ := hC.2.2 rfl
  have HL : Hid (LayR 0 l (16384 + pN b) (rdT b) l' 0) := Lib.hid (put_lay hm0 (by omega) (fun i hi => HY.out.bytes hm0 i (by have := HKQ.out; omega)) hpo)
  have z22 : w3.cell? ⟨g, 22, none⟩ = some (.int .i64 (A : Int)) := (h3.cell 22 (.int .i64 b.at_) rfl).trans (by rw [EA.out])
  have f22 := h3.free 22
  have HB3 := Lib.hid (h3.set (b' := { b with at_ := b.at_ + rdK b }) 22 (.int .i64 ((A : Int) + (K : Int))) (by rw [← EA.out, ← EKK.out]; rfl))
  have G3 := Lib.hid hC.1
  clear hC hpo h3 hC0 W1 x6 x21 x22 x6d eM eS
  go_wp2
  go_ret
  exact ⟨_, l', _, rfl, Lib.hid (.inr ⟨HY.out, HL.out, rfl, EKK.out.symm⟩), ⟨_, _, HB3.out⟩, gb_then G3.out (gbSet _ _ _ _)⟩
end Go.Proofs.YtbkgmpkednkbcaaGreatDoor
namespace Go.Proofs.YtbkgmpkednkbcaaGreatDoor
open Go.RowKit Go.Sort
set_option linter.unusedVariables false
set_option linter.unusedSimpArgs false
theorem AnyV.monoE {w w' : World} {v : Value} (he : Ext w w') (h : AnyV w v) : AnyV w' v := trivial
/-- what GetBytes answers -/
def GetTup (l : List Pg) (a n : Int) : World → Value → Prop := fun _ v => ∃ r k, v = .tuple #[.string r, .int .i64 k] ∧ GetOut l a n r k
theorem GetTup.monoE {l : List Pg} {a n : Int} {w w' : World} {v : Value} (he : Ext w w') (h : GetTup l a n w v) : GetTup l a n w' v := h
def GetStr (l : List Pg) (a n : Int) : World → Value → Prop := fun _ v => ∃ r, v = .string r ∧ ∃ k, GetOut l a n r k
theorem GetStr.monoE {l : List Pg} {a n : Int} {w w' : World} {v : Value} (he : Ext w w') (h : GetStr l a n w v) : GetStr l a n w' v := h
theorem get_text {l : List Pg} (hm : MemOk l) {a n c : Int} {r : ByteArray} (hn : 0 ≤ n ∧ n ≤ 8192) (h : ∀ i : Nat, (i : Int) < n → ∃ v, ByteAt l 0 (a + i) v) (hg : GetOut l a n r c) : ∃ T : List UInt8, TkOut l a n.toNat 0 T 0 ∧ r = ⟨T.toArray⟩ := by
  rcases hg with ⟨h1, _⟩ | ⟨_, h1, _⟩ | ⟨_, _, t, k, ht, h3⟩
  · exact absurd hm h1
  · exact absurd hn h1
  · have hk : k = 0 := by
      rcases ht.2 with ⟨hk, _⟩ | ⟨hl, hc⟩
      · exact hk
      · obtain ⟨v, hv⟩ := h t.length (by omega)
        exact (byte_code hm hv hc).elim
    subst hk
    rcases h3 with ⟨_, rfl, _⟩ | ⟨h4, _⟩
    · exact ⟨t, ht, rfl⟩
    · exact absurd rfl h4
set_option maxHeartbeats 8000000 in
set_option maxRecDepth 100000 in
theorem writeC (B g : Nat) (b : Bo) (p : Option Addr) (c : Nat) (l : List Pg) (W : World) (h : BH B g b p c l W) (hm0 : MemOk l) (hs0 : Small l) (ho : b.out_.size ≤ 512) :
    Calls Tryz.prog 74 #[.pointer (some ⟨g, 0, none⟩)] W fun e w' => ∃ b' l' v, e = .returned (.int .i64 v) ∧ Hid (SvWr b l b' l' v) ∧ SvTo B g W w' b' l' := by
  have hm := mixed
  have CH := Lib.hid (hasC B g b p c l 1 W h hm0 hs0 (by unfold PermOk; omega))
  have CQ := Lib.hid (fun W c6 => boxQ g (b.c.rs 6) W c6)
  have hq := qN_b b
  have H := Lib.hid h
  clear h
  go_enter Tryz.func74, Tryz.ntmps74
  go_wp2_with fail
  refine (CH.out).mono ?_
  rintro e w1 ⟨⟨r, rfl, HR⟩, b1⟩
  have h1 := H.out.below b1
  have G1 := Lib.hid (gb_below b1 (some g))
  clear b1 CH H
  cases r with
  | false =>
    have hr := HR.out
    clear HR
    go_wp2
    go_ret
    exact ⟨b, l, _, rfl, Lib.hid (.inl ⟨fun hy => (by simpa using hr.2 hy), rfl, rfl, rfl⟩), ⟨_, _, h1⟩, G1.out⟩
  | true =>
  have HY : Hid (SpYes l (pN b) (qN b) 1) := Lib.hid (HR.out.1 (by trivial))
  have x6 := h1.cell 6 (.int .i64 (b.c.rs 6)) rfl
  have x23 := h1.cell 23 (.string b.out_) rfl
  have eW : IntKind.i64.wrap (512 - (b.out_.size : Int)) = 512 - (b.out_.size : Int) := IntWalk.i64_in _ (by omega)
  have H1 := Lib.hid h1
  have HO := Lib.hid ho; have HQ := Lib.hid hq
  clear HR h1 ho hq
  go_wp2_with fail
  refine ((CQ.out) _ x6).mono ?_
  rintro e w2 ⟨rfl, rfl⟩
  have EQ : b.c.rs 6 % 4294967296 = qN b := rfl
  rw [EQ]
  by_cases hq : 512 - (b.out_.size : Int) < qN b
  · have HQL := Lib.hid hq
    go_wp2
    go_ret
    exact ⟨b, l, _, rfl, Lib.hid (.inr (.inl ⟨HY.out, HQL.out, rfl, rfl, rfl⟩)), ⟨_, _, H1.out⟩, G1.out⟩
  · have HQL := Lib.hid hq
    go_upto_region 6 with fail
    have h1 := H1.out
    have eP : IntKind.i64.wrap (16384 + pN b) = 16384 + pN b := IntWalk.i64_in _ (by have := pN_b b; omega)
    refine wp_region_krs 14 [fun _ v => v = .pointer (some ⟨g, 0, none⟩), fun _ v => v = .pointer (some ⟨g, 0, none⟩), fun _ v => v = .pointer (some ⟨g, 18, none⟩), fun _ v => v = .agg #[.slice p l.length c], fun _ v => v = .pointer (some ⟨g, 0, none⟩), fun _ v => v = .int .i64 (pN b), fun _ v => v = .int .i64 (16384 + pN b), fun _ v => v = .int .i64 (qN b), GetTup l (16384 + pN b) (qN b), GetTup l (16384 + pN b) (qN b), GetStr l (16384 + pN b) (qN b), AnyV, GetStr l (16384 + pN b) (qN b), AnyV] hm (by rfl) (by kernel_rfl) (by kernel_rfl) (by kernel_rfl) (by kernel_rfl) (by kernel_rfl) ?_ ?_ ?_
    · intro j V hV w1 w2 v he h
      have hm := List.mem_of_getElem? hV
      simp only [List.mem_cons, List.not_mem_nil, or_false] at hm
      rcases hm with rfl | rfl | rfl | rfl | rfl | rfl | rfl | rfl | rfl | rfl | rfl | rfl | rfl | rfl
      all_goals first | exact h | exact AnyV.monoE he h | exact GetStr.monoE he h | exact GetTup.monoE he h
    · intro i hi o V ho hV a wx he hs hd
      have hi' : i = 0 ∨ i = 1 ∨ i = 2 ∨ i = 3 ∨ i = 4 ∨ i = 5 ∨ i = 6 ∨ i = 7 ∨ i = 8 ∨ i = 9 ∨ i = 10 ∨ i = 11 ∨ i = 12 ∨ i = 13 := by simp at hi; omega
      clear hi
      rcases hi' with rfl | rfl | rfl | rfl | rfl | rfl | rfl | rfl | rfl | rfl | rfl | rfl | rfl | rfl
      all_goals obtain rfl := Option.some.inj ho
      all_goals obtain rfl := Option.some.inj hV
      · have e0 := slotX (v := .pointer (some ⟨g, 0, none⟩)) hs (k := 0) (noDstX (by kernel_rfl)) rfl
        go_simp
        exact ⟨Below.refl _ _, rfl⟩
      · have e20 := getX (show a.tmps.getD 20 undef = .pointer (some ⟨g, 0, none⟩) from hd ⟨0, .data⟩ (by simp) rfl _ _ _ rfl rfl rfl)
        go_simp
        exact ⟨Below.refl _ _, rfl⟩
      · have e21 := getX (show a.tmps.getD 21 undef = .pointer (some ⟨g, 0, none⟩) from hd ⟨1, .data⟩ (by simp) rfl _ _ _ rfl rfl rfl)
        go_simp
        exact ⟨Below.refl _ _, rfl⟩
      · have e22 := getX (show a.tmps.getD 22 undef = .pointer (some ⟨g, 18, none⟩) from hd ⟨2, .data⟩ (by simp) rfl _ _ _ rfl rfl rfl)
        have hc := (h1.below he).cell 18 (.slice p l.length c) rfl
        go_simp
        exact ⟨Below.refl _ _, rfl⟩
      · have e0 := slotX (v := .pointer (some ⟨g, 0, none⟩)) hs (k := 0) (noDstX (by kernel_rfl)) rfl
        go_simp
        exact ⟨Below.refl _ _, rfl⟩
      · have e24 := getX (show a.tmps.getD 24 undef = .pointer (some ⟨g, 0, none⟩) from hd ⟨4, .data⟩ (by simp) rfl _ _ _ rfl rfl rfl)
        have x7 := (h1.below he).cell 7 (.int .i64 (b.c.rs 7)) rfl
        refine callKX (vals := #[.pointer (some ⟨g, 0, none⟩)]) rfl (by simp only [List.map_toArray, List.map_cons, List.map_nil, Act.eval, Array.getD_eq_getD_getElem?, e24]; try rfl) (by go_simp) ((boxP g (b.c.rs 7) wx x7).mono ?_)
        rintro e w' ⟨rfl, rfl⟩
        exact ⟨_, rfl, Below.refl _ _, rfl⟩
      · have e25 := getX (show a.tmps.getD 25 undef = .int .i64 (pN b) from hd ⟨5, .data⟩ (by simp) rfl _ _ _ rfl rfl rfl)
        go_simp
        exact ⟨Below.refl _ _, rfl⟩
      · have e3 := slotX (v := .int .i64 (qN b)) hs (k := 3) (noDstX (by kernel_rfl)) rfl
        go_simp
        exact ⟨Below.refl _ _, rfl⟩
      · have e23 := getX (show a.tmps.getD 23 undef = .agg #[.slice p l.length c] from hd ⟨3, .data⟩ (by simp) rfl _ _ _ rfl rfl rfl)
        have e26 := getX (show a.tmps.getD 26 undef = .int .i64 (16384 + pN b) from hd ⟨6, .data⟩ (by simp) rfl _ _ _ rfl rfl rfl)
        have e27 := getX (show a.tmps.getD 27 undef = .int .i64 (qN b) from hd ⟨7, .data⟩ (by simp) rfl _ _ _ rfl rfl rfl)
        have hb := h1.below he
        refine callKX (vals := #[.agg #[.slice p l.length c], .int .i64 (16384 + pN b), .int .i64 (qN b)]) rfl (by simp only [List.map_toArray, List.map_cons, List.map_nil, Act.eval, Array.getD_eq_getD_getElem?, e23, e26, e27]; try rfl) (by go_simp) ((getBI p c l (16384 + pN b) (qN b) wx hb.o.ad hs0 (owns_rd hb.o) (by have := pN_b b; omega) (by have := pN_b b; omega)).mono ?_)
        rintro e w' ⟨r, k, rfl, hgo, b3⟩
        exact ⟨_, rfl, b3, r, k, rfl, hgo.out⟩
      · have r28 : (GetTup l (16384 + pN b) (qN b)) wx (a.tmps.getD 28 undef) := hd ⟨8, .data⟩ (by simp) rfl _ _ _ rfl rfl rfl
        obtain ⟨r, k, e28, hr⟩ := r28
        have e28 := getX e28
        go_simp
        exact ⟨Below.refl _ _, r, k, rfl, hr⟩
      · have r19 : (GetTup l (16384 + pN b) (qN b)) wx (a.tmps.getD 19 undef) := hd ⟨9, .data⟩ (by simp) rfl _ _ _ rfl rfl rfl
        obtain ⟨r, k, e19, hr⟩ := r19
        have e19 := getX e19
        go_simp
        exact ⟨Below.refl _ _, r, rfl, k, hr⟩
      · have r19 : (GetTup l (16384 + pN b) (qN b)) wx (a.tmps.getD 19 undef) := hd ⟨9, .data⟩ (by simp) rfl _ _ _ rfl rfl rfl
        obtain ⟨r, k, e19, hr⟩ := r19
        have e19 := getX e19
        go_simp
        exact ⟨Below.refl _ _, trivial⟩
      · have r29 : (GetStr l (16384 + pN b) (qN b)) wx (a.tmps.getD 29 undef) := hd ⟨10, .data⟩ (by simp) rfl _ _ _ rfl rfl rfl
        obtain ⟨r, e29, k, hr⟩ := r29
        have e29 := getX e29
        go_simp
        exact ⟨Below.refl _ _, r, rfl, k, hr⟩
      · have r30 : (AnyV) wx (a.tmps.getD 30 undef) := hd ⟨11, .data⟩ (by simp) rfl _ _ _ rfl rfl rfl
        go_simp
        exact ⟨Below.refl _ _, trivial⟩
    intro a w3 he hs hh
    obtain ⟨T, e4, k, hgo⟩ : GetStr l (16384 + pN b) (qN b) w3 (a.tmps.getD 4 undef) := hh 12 (by simp) _ _ _ rfl rfl rfl
    have ea := same_litL hs [20, 21, 22, 23, 24, 25, 26, 27, 28, 19, 29, 30, 4, 5] (by kernel_rfl) _ rfl
    simp only [List.foldl_cons, List.foldl_nil, List.set_cons_succ, List.set_cons_zero] at ea
    rw [e4] at ea
    generalize a.tmps.getD 20 undef = y20 at ea
    generalize a.tmps.getD 21 undef = y21 at ea
    generalize a.tmps.getD 22 undef = y22 at ea
    generalize a.tmps.getD 23 undef = y23 at ea
    generalize a.tmps.getD 24 undef = y24 at ea
    generalize a.tmps.getD 25 undef = y25 at ea
    generalize a.tmps.getD 26 undef = y26 at ea
    generalize a.tmps.getD 27 undef = y27 at ea
    generalize a.tmps.getD 28 undef = y28 at ea
    generalize a.tmps.getD 19 undef = y19 at ea
    generalize a.tmps.getD 29 undef = y29 at ea
    generalize a.tmps.getD 30 undef = y30 at ea
    generalize a.tmps.getD 5 undef = y5 at ea
    clear hh hs
    subst ea
    obtain ⟨T, ht, rfl⟩ := get_text hm0 (by have := HQ.out; have := HO.out; omega) (HY.out.bytes hm0) hgo
    have HT := Lib.hid ht
    have hX : (⟨T.toArray⟩ : ByteArray).size = (qN b).toNat := by
      rcases ht.2 with ⟨_, h8⟩ | ⟨_, h8⟩
      · exact h8
      · exact absurd h8 (fun h8 => by
          obtain ⟨v, hv⟩ := HY.out.bytes hm0 T.length (by have := HQ.out; omega)
          exact byte_code hm0 hv h8)
    obtain ⟨X, eX⟩ : ∃ X : ByteArray, X = ⟨T.toArray⟩ := ⟨_, rfl⟩
    have EX := Lib.hid eX
    rw [← eX] at hX ⊢
    have hcat : (b.out_.size : Int) + (X.size : Int) ≤ 9223372036854775807 := by have := HQL.out; have := HO.out; have := HQ.out; omega
    have hcat2 : b.out_.size + X.size ≤ 9223372036854775807 := by omega
    clear eX
    have h3 := h1.below he
    have z23 := h3.cell 23 (.string b.out_) rfl
    have f23 := h3.free 23
    have HB3 := Lib.hid (h3.set (b' := { b with out_ := b.out_ ++ X }) 23 (.string (b.out_ ++ X)) (by rfl))
    have G3 := Lib.hid (gb_then G1.out (gb_below he (some g)))
    clear hgo he h3 h1 x6 x23 eW ht e4
    simp only [List.drop_succ_cons, List.drop_zero, List.drop_nil, wpTail]
    go_wp2
    go_ret
    exact ⟨_, l, _, rfl, Lib.hid (.inr (.inr ⟨HY.out, by have := HQL.out; omega, ⟨T, HT.out, by rw [EX.out]⟩, rfl, rfl⟩)), ⟨_, _, HB3.out⟩, gb_then G3.out (gbSet _ _ _ _)⟩
end Go.Proofs.YtbkgmpkednkbcaaGreatDoor
namespace Go.Proofs.YtbkgmpkednkbcaaGreatDoor
open Go.RowKit Go.Sort
set_option linter.unusedVariables false
theorem insL_ok {l : List Pg} {i : Nat} {base perm : Int} (hm : MemOk l) (h32 : l.length ≠ 32) (hb : BaseOk base) (hp : PermOk perm) (hi : PlaceAt l base i) (hno : ∀ (k : Nat) x, l[k]? = some x → x.b ≠ base) : MemOk (insL l i ⟨base, perm, zeros256⟩) := by
  refine ⟨by rw [insL_len hi.1]; have := hm.1; omega, fun k x hk => ?_, fun k x y hk hk2 => ?_⟩
  · rw [insL_at hi.1] at hk
    split at hk
    · exact hm.2.1 k x hk
    · split at hk
      · cases hk
        exact ⟨hb.1, hb.2.1, hb.2.2, hp.1, hp.2, zeros_size⟩
      · exact hm.2.1 _ x hk
  · rw [insL_at hi.1] at hk hk2
    by_cases h1 : k + 1 < i
    · rw [if_pos (by omega)] at hk
      rw [if_pos h1] at hk2
      exact hm.2.2 k x y hk hk2
    · by_cases h2 : k + 1 = i
      · rw [if_pos (by omega)] at hk
        rw [if_neg h1, if_pos h2] at hk2
        cases hk2
        exact (hi.2 k x hk).2 (by omega)
      · rw [if_neg h1, if_neg h2] at hk2
        by_cases h3 : k = i
        · rw [if_neg (by omega), if_pos h3] at hk
          cases hk
          have h4 : ¬ y.b < base := fun h => by have := (hi.2 _ y hk2).1 h; omega
          have h5 := hno _ y hk2
          show base < y.b
          omega
        · rw [if_neg (by omega), if_neg h3] at hk
          have e : k + 1 - 1 = k - 1 + 1 := by omega
          rw [e] at hk2
          exact hm.2.2 (k - 1) x y hk hk2
theorem AddOut.ok {l l' : List Pg} {base perm c : Int} (h : AddOut l base perm l' c) (hm : MemOk l) (hb : BaseOk base) (hp : PermOk perm) : MemOk l' ∧ (c = 13 ∨ c = 7 ∨ c = 0) := by
  rcases h with ⟨h1, _⟩ | ⟨_, h1, _⟩ | ⟨_, _, _, rfl, rfl⟩ | ⟨_, _, _, _, rfl, rfl⟩ | ⟨_, _, hno, h32, ⟨i, hi, rfl⟩, rfl⟩
  · exact absurd hm h1
  · exact absurd ⟨hb, hp⟩ h1
  · exact ⟨hm, by omega⟩
  · exact ⟨hm, by omega⟩
  · exact ⟨insL_ok hm h32 hb hp hi hno, by omega⟩
/-- what all pages from an offset on up to a bound make of a list: another, or none where there is no room -/
inductive FillR (brk : Int) : Int → List Pg → Option (List Pg) → Prop
  | stop {t : Int} {l : List Pg} : ¬ t < brk → FillR brk t l (some l)
  | more {t : Int} {l l' : List Pg} {c : Int} {r : Option (List Pg)} : t < brk → AddOut l (16384 + t) 3 l' c → c ≠ 7 → FillR brk (t + 256) l' r → FillR brk t l r
  | full {t : Int} {l l' : List Pg} : t < brk → AddOut l (16384 + t) 3 l' 7 → FillR brk t l none
theorem FillR.one {brk t : Int} {l : List Pg} {r r' : Option (List Pg)} (h : FillR brk t l r) (h' : FillR brk t l r') : r = r' := by
  induction h with
  | stop h1 =>
    cases h' with
    | stop _ => rfl
    | more g1 _ _ _ => exact absurd g1 h1
    | full g1 _ => exact absurd g1 h1
  | more h1 h2 h3 h4 ih =>
    cases h' with
    | stop g1 => exact absurd h1 g1
    | more _ g2 g3 g4 =>
      obtain ⟨rfl, rfl⟩ := AddOut.one h2 g2
      exact ih g4
    | full _ g2 => exact absurd (AddOut.one h2 g2).2 h3
  | full h1 h2 =>
    cases h' with
    | stop g1 => exact absurd h1 g1
    | more _ g2 g3 g4 => exact absurd (AddOut.one g2 h2).2 g3
    | full _ _ => rfl
theorem FillR.ok {brk t : Int} {l : List Pg} {r : Option (List Pg)} (h : FillR brk t l r) : ∀ l', r = some l' → MemOk l → Small l → (0 ≤ t ∧ t % 256 = 0) → brk ≤ 3584 → MemOk l' ∧ Small l' := by
  induction h with
  | stop h1 => intro l' e hm hs _ _; cases e; exact ⟨hm, hs⟩
  | more h1 h2 h3 h4 ih =>
    intro l' e hm hs ht hb
    exact ih l' e (h2.ok hm ⟨by omega, by omega, by omega⟩ ⟨by omega, by omega⟩).1 (h2.small hs) ⟨by omega, by omega⟩ hb
  | full h1 h2 => intro l' e; cases e
end Go.Proofs.YtbkgmpkednkbcaaGreatDoor
namespace Go.Proofs.YtbkgmpkednkbcaaGreatDoor
open Go.RowKit Go.Sort
set_option linter.unusedVariables false
set_option linter.unusedSimpArgs false
/-- within filled: its result's box and the box of the pages so far -/
structure FL (W wr : World) (B : Nat) (q : Option Addr) (cq : Nat) (L : List Pg) : Prop where
  res : wr.heap[W.heap.size]? = some (.cells #[.slice none 0 0] 34 (0, 0))
  mbx : wr.heap[W.heap.size + 1]? = some (.cells #[.slice q L.length cq] 34 (0, 0))
  own : Owns wr B q cq L
  ne : ∀ g, (Value.slice q L.length cq).ownBlock = some g → g ≠ W.heap.size ∧ g ≠ W.heap.size + 1
  bel : Below W.heap.size W wr
theorem FL.next {W wr w' : World} {B : Nat} {q : Option Addr} {cq : Nat} {L : List Pg} (h : FL W wr B q cq L) (hb : Below wr.heap.size wr w') : FL W w' B q cq L :=
  ⟨(hb.block _ (lt_of_block h.res)).trans h.res, (hb.block _ (lt_of_block h.mbx)).trans h.mbx, own_below h.own hb, h.ne, bthen h.bel hb⟩
theorem owns_other2 {W : World} {B g : Nat} {p : Option Addr} {c : Nat} {l : List Pg} (h : Owns W B p c l) (hn : ∀ g', (Value.slice p l.length c).ownBlock = some g' → g' ≠ g) (i : Nat) (v : Value) : Owns (W.setCell ⟨g, i, none⟩ v) B p c l := by
  refine World.ownsRow.kept h (gbSet W g i v) ?_
  cases hb : (Value.slice p l.length c).ownBlock with
  | none => exact .inl rfl
  | some j => exact .inr fun e => hn j hb (Option.some.inj e)
set_option maxHeartbeats 8000000 in
set_option maxRecDepth 100000 in
theorem filledC (B g : Nat) (b : Bo) (p : Option Addr) (c : Nat) (l : List Pg) (brk : Int) (W : World) (h : BH B g b p c l W) (hB : B ≤ W.heap.size) (hm0 : MemOk l) (hs0 : Small l) (hh : 512 ≤ b.hp ∧ b.hp ≤ 3584) (hk : 512 ≤ brk ∧ brk ≤ 3584) :
    Calls Tryz.prog 99 #[.pointer (some ⟨g, 0, none⟩), .int .i64 brk] W fun e w' => ((Hid (FillR brk (b.hp / 256 * 256) l none) ∧ e = .returned (.tuple #[.agg #[.slice none 0 0], .bool false])) ∨ ∃ p' c' l', Hid (FillR brk (b.hp / 256 * 256) l (some l')) ∧ e = .returned (.tuple #[.agg #[.slice p' l'.length c'], .bool true]) ∧ Owns w' B p' c' l') ∧ Below W.heap.size W w' := by
  have hm := mixed
  have x18 := h.cell 18 (.slice p l.length c) rfl
  have x19 := h.cell 19 (.int .i64 b.hp) rfl
  have hlt := lt_of_blk' h.x
  have H := Lib.hid h
  clear h
  go_enter Tryz.func99, Tryz.ntmps99
  go_wp2_with fail
  obtain ⟨V, hV⟩ : ∃ V, V = (W.alloc (.cells #[.slice none 0 0] 34)).alloc (.cells #[.slice p l.length c] 34) := ⟨_, rfl⟩
  rw [← hV]
  have F0 : Hid (FL W V B p c l) := Lib.hid ⟨by rw [hV]; exact ((below1 (W.alloc _) _).block W.heap.size (by simp)).trans (heap_alloc_new W _), by rw [hV]; have h8 := heap_alloc_new (W.alloc (.cells #[.slice none 0 0] 34)) (.cells #[.slice p l.length c] 34); rw [World.size_alloc] at h8; exact h8, own_below H.out.o (by rw [hV]; exact bbox (below1 W _) _), fun g' hg' => by have := (H.out.o.lt g' hg').2; omega, by rw [hV]; exact bbox (below1 W _) _⟩
  have HM0 := Lib.hid hm0; have HS0 := Lib.hid hs0; have HH := Lib.hid hh; have HK := Lib.hid hk; have HBB := Lib.hid hB
  clear hV x18 x19 hm0 hs0 hh hk H hlt hB
  go_loopw [7] (fun i wr => ∃ (t : Int) (L : List Pg) (q : Option Addr) (cq : Nat), i = .int .i64 t ∧ Hid (0 ≤ t ∧ t % 256 = 0 ∧ t ≤ 4096) ∧ Hid (∀ r, FillR brk t L r → FillR brk (b.hp / 256 * 256) l r) ∧ Hid (MemOk L) ∧ Hid (Small L) ∧ Hid (FL W wr B q cq L)) (fun i _ => (4096 - intOf i).toNat)
  case atStart => exact ⟨_, l, p, c, rfl, Lib.hid (by have := HH.out; omega), Lib.hid (fun r h => h), HM0, HS0, F0⟩
  case round =>
    obtain ⟨t, L, q, cq, rfl, HT, HR, HM, HS, HF⟩ := hrel
    have kM := cell_of_one HF.out.mbx
    have fM := free_of_one HF.out.mbx
    have kR := cell_of_one HF.out.res
    have fR := free_of_one HF.out.res
    have rR (v : Value) := cellSame kR v
    by_cases hlt : t < brk
    · have HL := Lib.hid hlt
      have eP : IntKind.i64.wrap (16384 + t) = 16384 + t := IntWalk.i64_in _ (by have := HT.out; omega)
      go_wp2_with fail
      refine (addI q cq L (16384 + t) 3 wr HF.out.own.ad HS.out (owns_rd HF.out.own)).mono ?_
      rintro e w1 ⟨l', p', c', k, rfl, HA, HO, b1⟩
      have F1 := HF.out.next b1
      have hB1 : B ≤ w1.heap.size := Nat.le_trans (Nat.le_trans HBB.out HF.out.bel.size) b1.size
      have hb2 := lt_of_block HF.out.mbx
      have hnew : ∀ g', (Value.slice p' l'.length c').ownBlock = some g' → g' ≠ W.heap.size ∧ g' ≠ W.heap.size + 1 := fun g' hg' => by have := (HO.out.lt g' hg').1; omega
      have o1 : Owns w1 B p' c' l' := Joins.ownsRow_le HO.out (Nat.le_trans (Nat.le_trans HBB.out HF.out.bel.size) (Nat.le_refl _))
      go_upto_region 6 with fail
      obtain ⟨U, hU⟩ : ∃ U, U = w1.alloc (.cells #[.slice p' l'.length c'] 34) := ⟨_, rfl⟩
      rw [← hU]
      have FU : Hid (FL W U B q cq L) := Lib.hid (by rw [hU]; exact F1.next (below1 w1 _))
      have oU : Hid (Owns U B p' c' l') := Lib.hid (by rw [hU]; exact own_below o1 (below1 w1 _))
      have uN : U.cell? ⟨w1.heap.size, 0, none⟩ = some (.slice p' l'.length c') := by rw [hU]; exact cell_of_one (heap_alloc_new w1 _)
      have uM := cell_of_one FU.out.mbx
      have gM := free_of_one FU.out.mbx
      have uR := cell_of_one FU.out.res
      have gR := free_of_one FU.out.res
      have sR (v : Value) := cellSame uR v
      have HN := Lib.hid hnew
      clear hU kM fM kR fR rR b1 F1 o1 hnew hB1 hb2
      by_cases hk : k = 7
      · subst hk
        go_wp2
        refine bodyPost_ret (v := .tuple #[.agg #[.slice none 0 0], .bool false]) (by simp [results, Tryz.results99, go_sem, sR]) rfl ?_
        exact ⟨.inl ⟨Lib.hid (HR.out _ (.full HL.out HA.out)), rfl⟩, FU.out.bel.setCell (by simp) _⟩
      · have d2 : (k == 7) = false := by simpa using hk
        have eT : IntKind.i64.wrap (t + 256) = t + 256 := IntWalk.i64_in _ (by have := HT.out; omega)
        have HK7 := Lib.hid hk
        clear hk sR
        go_wp2
        go_roundw
        case rel =>
          have hT := HT.out
          have hL := HL.out
          have hK := HK.out
          have hM := HA.out.ok HM.out ⟨by omega, by omega, by omega⟩ ⟨by omega, by omega⟩
          exact ⟨t + 256, l', p', c', rfl, Lib.hid (by omega), Lib.hid (fun r h => HR.out r (.more hL HA.out HK7.out h)), Lib.hid hM.1, Lib.hid (HA.out.small HS.out), Lib.hid ⟨by rw [Below.heap_setCell _ _ _ _ (by simp)]; exact FU.out.res, one_setCell FU.out.mbx, owns_other2 oU.out (fun g' hg' => (HN.out g' hg').2) _ _, HN.out, FU.out.bel.setCell (by simp) _⟩⟩
        case measure => simp [intOf]; have := HT.out; have := HL.out; have := HK.out; omega
    · have HL := Lib.hid hlt
      go_wp2
      refine bodyPost_ret (v := .tuple #[.agg #[.slice q L.length cq], .bool true]) (by simp [results, Tryz.results99, go_sem, rR]) rfl ?_
      exact ⟨.inr ⟨q, cq, L, Lib.hid (HR.out _ (.stop (by have := HL.out; omega))), rfl, owns_other2 HF.out.own (fun g' hg' => (HF.out.ne g' hg').1) _ _⟩, HF.out.bel.setCell (by simp) _⟩
end Go.Proofs.YtbkgmpkednkbcaaGreatDoor
namespace Go.Proofs.YtbkgmpkednkbcaaGreatDoor
open Go.RowKit Go.Sort
set_option linter.unusedVariables false
set_option linter.unusedSimpArgs false
/-- by how much the heap's end is moved -/
def dN (b : Bo) : Int := wrap64 (wrap32 (pN b))
theorem dN_b (b : Bo) : -2147483648 ≤ dN b ∧ dN b ≤ 2147483647 := by
  have h : -2147483648 ≤ wrap32 (pN b) ∧ wrap32 (pN b) ≤ 2147483647 := by unfold wrap32; omega
  unfold dN wrap64
  omega
def SvBk (b : Bo) (l : List Pg) (b' : Bo) (l' : List Pg) (v : Int) : Prop :=
  (¬ (b.hp ≤ b.bk + dN b ∧ b.bk + dN b ≤ 3584) ∧ b' = b ∧ l' = l ∧ v = -12) ∨ ((b.hp ≤ b.bk + dN b ∧ b.bk + dN b ≤ 3584) ∧ FillR (b.bk + dN b) (b.hp / 256 * 256) l none ∧ b' = b ∧ l' = l ∧ v = -12) ∨
  ((b.hp ≤ b.bk + dN b ∧ b.bk + dN b ≤ 3584) ∧ FillR (b.bk + dN b) (b.hp / 256 * 256) l (some l') ∧ b' = { b with bk := b.bk + dN b } ∧ v = b.bk)
theorem SvBk.one {b b1 b2 : Bo} {l l1 l2 : List Pg} {v1 v2 : Int} (h : SvBk b l b1 l1 v1) (h' : SvBk b l b2 l2 v2) : b1 = b2 ∧ l1 = l2 ∧ v1 = v2 := by
  rcases h with ⟨h1, rfl, rfl, rfl⟩ | ⟨h1, h2, rfl, rfl, rfl⟩ | ⟨h1, h2, rfl, rfl⟩ <;> rcases h' with ⟨g1, rfl, rfl, rfl⟩ | ⟨g1, g2, rfl, rfl, rfl⟩ | ⟨g1, g2, rfl, rfl⟩ <;> first | exact ⟨rfl, rfl, rfl⟩ | exact absurd g1 h1 | exact absurd h1 g1 | (obtain rfl := Option.some.inj (h2.one g2); exact ⟨rfl, rfl, rfl⟩) | (have h9 := h2.one g2; simp at h9)
theorem sgC (g : Nat) (v : Int) (W : World) (c7 : W.cell? ⟨g, 7, none⟩ = some (.int .i64 v)) :
    Calls Tryz.prog 82 #[.pointer (some ⟨g, 0, none⟩), .int .i64 7, .int .i64 4] W fun e w' => e = .returned (.int .i64 (wrap64 (wrap32 (v % 4294967296)))) ∧ w' = W := by
  have C := Lib.hid (getI W g v (v % 4294967296) 4 7 (by omega) c7 (fun w => unsigned4 v w))
  have C2 := Lib.hid (signed4 (v % 4294967296))
  go_enter Tryz.func82, Tryz.ntmps82
  go_wp2_with fail
  refine (C.out).mono ?_
  rintro e w1 ⟨rfl, rfl⟩
  go_wp2_with fail
  refine (C2.out _).mono ?_
  rintro e w1 ⟨rfl, rfl⟩
  go_wp2
  go_ret
  exact ⟨rfl, rfl⟩
theorem BH.put {B g : Nat} {b : Bo} {p p' : Option Addr} {c c' : Nat} {l l' : List Pg} {W : World} (h : BH B g b p c l W) (ho : Owns W B p' c' l') : BH B g b p' c' l' (W.setCell ⟨g, 18, none⟩ (.slice p' l'.length c')) :=
  ⟨row_set h.x 18 _ (by rfl), owns_other ho h.n 18 _, h.n⟩
set_option maxHeartbeats 8000000 in
set_option maxRecDepth 100000 in
theorem growC (B g : Nat) (b : Bo) (p : Option Addr) (c : Nat) (l : List Pg) (W : World) (h : BH B g b p c l W) (hB : B ≤ W.heap.size) (hm0 : MemOk l) (hs0 : Small l) (hh : 512 ≤ b.hp ∧ b.hp ≤ b.bk ∧ b.bk ≤ 3584) :
    Calls Tryz.prog 75 #[.pointer (some ⟨g, 0, none⟩)] W fun e w' => ∃ b' l' v, e = .returned (.int .i64 v) ∧ Hid (SvBk b l b' l' v) ∧ SvTo B g W w' b' l' := by
  have hm := mixed
  have x20 := h.cell 20 (.int .i64 b.bk) rfl
  have x7 := h.cell 7 (.int .i64 (b.c.rs 7)) rfl
  have x19 := h.cell 19 (.int .i64 b.hp) rfl
  have hd := dN_b b
  have C7 := Lib.hid (sgC g (b.c.rs 7) W x7)
  have ED : wrap64 (wrap32 (b.c.rs 7 % 4294967296)) = dN b := rfl
  rw [ED] at C7
  obtain ⟨K, eK⟩ : ∃ K, K = b.bk + dN b := ⟨_, rfl⟩
  have eS : IntKind.i64.wrap (b.bk + dN b) = K := by rw [eK]; exact IntWalk.i64_in _ (by omega)
  have EK := Lib.hid eK
  have H := Lib.hid h; have HM := Lib.hid hm0; have HS := Lib.hid hs0; have HH := Lib.hid hh; have HB := Lib.hid hB
  have G0 := Lib.hid (gb_refl W (some g))
  clear h hm0 hs0 hh hB ED hd eK
  have CB := Lib.hid (brkI g b.hp K W x19)
  go_enter Tryz.func75, Tryz.ntmps75
  go_wp2_with fail
  refine (C7.out).mono ?_
  rintro e w1 ⟨rfl, rfl⟩
  go_wp2_with fail
  refine (CB.out).mono ?_
  rintro e w2 ⟨rfl, rfl⟩
  by_cases hr : b.hp ≤ K ∧ K ≤ 3584
  · rw [decide_eq_true hr]
    have hk : 512 ≤ K ∧ K ≤ 3584 := by have := HH.out; omega
    have CF := Lib.hid (filledC B g b p c l K w2 H.out HB.out HM.out HS.out (by have := HH.out; omega) hk)
    have HR := Lib.hid hr
    clear hr hk CB C7
    go_wp2_with fail
    refine (CF.out).mono ?_
    rintro e w3 ⟨ho, b3⟩
    have h3 := H.out.below b3
    have G3 := Lib.hid (gb_then G0.out (gb_below b3 (some g)))
    clear CF b3 x20 x7 x19
    rcases ho with ⟨hf, rfl⟩ | ⟨p', c', l', hf, rfl, ho⟩
    · have hlt := lt_of_blk' h3.x
      have h4 := h3.below (below1 w3 (.cells #[.slice none 0 0] 34))
      have G4 := Lib.hid (gb_then G3.out (gb_below (below1 w3 (.cells #[.slice none 0 0] 34)) (some g)))
      go_wp2
      go_ret
      exact ⟨b, l, _, rfl, Lib.hid (.inr (.inl ⟨by rw [← EK.out]; exact HR.out, by rw [← EK.out]; exact hf.out, rfl, rfl, rfl⟩)), ⟨_, _, h4⟩, G4.out⟩
    · have ho2 := own_below ho (below1 w3 (.cells #[.slice p' l'.length c'] 34))
      have h4 := h3.below (below1 w3 (.cells #[.slice p' l'.length c'] 34))
      have G4 := Lib.hid (gb_then G3.out (gb_below (below1 w3 (.cells #[.slice p' l'.length c'] 34)) (some g)))
      go_upto_region 8 with fail
      obtain ⟨U, hU⟩ : ∃ U, U = w3.alloc (.cells #[.slice p' l'.length c'] 34) := ⟨_, rfl⟩
      have uN : U.cell? ⟨w3.heap.size, 0, none⟩ = some (.slice p' l'.length c') := by rw [hU]; exact cell_of_one (heap_alloc_new w3 _)
      rw [← hU] at h4 ho2 G4 ⊢
      have f18 := h4.free 18
      have x18 := h4.cell 18 (.slice p l.length c) rfl
      have h5 := h4.put ho2
      have f20 := h5.free 20
      have x20 := h5.cell 20 (.int .i64 b.bk) rfl
      have h6 := Lib.hid (h5.set (b' := { b with bk := b.bk + dN b }) 20 (.int .i64 K) (by rw [EK.out]; rfl))
      have HF := Lib.hid hf.out
      clear hU h4 h5 ho2 ho h3 hf
      go_wp2
      go_ret
      exact ⟨_, l', _, rfl, Lib.hid (.inr (.inr ⟨by rw [← EK.out]; exact HR.out, by rw [← EK.out]; exact HF.out, rfl, rfl⟩)), ⟨_, _, h6.out⟩, gb_then (gb_then G4.out (gbSet _ _ _ _)) (gbSet _ _ _ _)⟩
  · rw [decide_eq_false hr]
    have HR := Lib.hid hr
    go_wp2
    go_ret
    exact ⟨b, l, _, rfl, Lib.hid (.inl ⟨by rw [← EK.out]; exact HR.out, rfl, rfl, rfl⟩), ⟨_, _, H.out⟩, G0.out⟩
end Go.Proofs.YtbkgmpkednkbcaaGreatDoor
namespace Go.Proofs.YtbkgmpkednkbcaaGreatDoor
open Go Go.RowKit Go.Maps Go.ChangeMaps
set_option linter.unusedVariables false
set_option linter.unusedSimpArgs false
theorem mu_run {P : Program} {t k e : TypeId} (K : Keyed P k) (ht : P.underlying t = some (.map k e)) {w : World} {r clock : Nat} {es : Array MapEntry} (hb : w.heap[r]? = some (.map es clock)) {key val : Value} {kl : Lit} (hkey : keyOf P k key = some kl) (hall : ∀ x ∈ es.toList, ∃ l, keyOf P k x.key = some l) (hne : ∀ x ∈ es.toList, x.key ≠ key) :
    ∃ w', (Instr.mapUpdate t (.map (some r)) key val).run P w = .ok () w' ∧ w'.heap[r]? = some (.map (es.push ⟨key, val, clock⟩) (clock + 1)) ∧ w.grownBy w' (some r) := by
  rcases K.find w hkey es.toList hall with ⟨h1, _⟩ | ⟨j, x, h1, h2, h3⟩
  · refine ⟨setBlock w r (.map (es.push ⟨key, val, clock⟩) (clock + 1)), ?_, heap_setBlock_same hb _, ⟨rfl, rfl, rfl, by simp [setBlock], fun i _ hi => heap_setBlock_other hb _ (fun e => hi (by rw [e]))⟩⟩
    simp [Instr.mapUpdate, run_underlying ht, MapKept.run_getObj_map hb, K.check w false hkey, h1, MapKept.run_setObj_map _ hb, Result.andThen, setBlock]
  · exact absurd h3 (hne x (List.mem_of_getElem? h2))
theorem lk_yes {P : Program} {t k e : TypeId} (K : Keyed P k) (ht : P.underlying t = some (.map k e)) {w : World} {r clock : Nat} {es : Array MapEntry} (hb : w.heap[r]? = some (.map es clock)) {key val : Value} {kl : Lit} (hkey : keyOf P k key = some kl) (hall : ∀ x ∈ es.toList, ∃ l, keyOf P k x.key = some l) (hv : ∃ x ∈ es.toList, x.key = key) (hval : ∀ x ∈ es.toList, x.key = key → x.val = val) :
    (Instr.lookup t (.map (some r)) key true).run P w = .ok (.tuple #[val, .bool true]) w := by
  rcases K.find w hkey es.toList hall with ⟨h1, h2⟩ | ⟨j, x, h1, h2, h3⟩
  · obtain ⟨x, hx, he⟩ := hv
    exact absurd he (h2 x hx)
  · have := hval x (List.mem_of_getElem? h2) h3
    rw [this] at h1
    simp [Instr.lookup, run_underlying ht, MapKept.run_getObj_map hb, K.check w _ hkey, h1, Result.andThen]
theorem lk_no {P : Program} {t k e : TypeId} (K : Keyed P k) (ht : P.underlying t = some (.map k e)) {w : World} {r clock : Nat} {es : Array MapEntry} (hb : w.heap[r]? = some (.map es clock)) {key z : Value} {kl : Lit} (hkey : keyOf P k key = some kl) (hall : ∀ x ∈ es.toList, ∃ l, keyOf P k x.key = some l) (hne : ∀ x ∈ es.toList, x.key ≠ key) (hz : (zeroValue e).run P w = .ok z w) :
    (Instr.lookup t (.map (some r)) key true).run P w = .ok (.tuple #[z, .bool false]) w := by
  rcases K.find w hkey es.toList hall with ⟨h1, h2⟩ | ⟨j, x, h1, h2, h3⟩
  · simp [Instr.lookup, run_underlying ht, MapKept.run_getObj_map hb, K.check w _ hkey, h1, hz, Result.andThen]
  · exact absurd h3 (hne x (List.mem_of_getElem? h2))
end Go.Proofs.YtbkgmpkednkbcaaGreatDoor
namespace Go.Proofs.YtbkgmpkednkbcaaGreatDoor
open Go.RowKit Go.Sort Go.Maps
set_option linter.unusedVariables false
set_option linter.unusedSimpArgs false
theorem svLaw : Keyed Tryz.prog 3 := int_keyed Tryz.underlying3
def svF (f : Nat) : Value := .func (.func f) #[] #[]
def svE (k f n : Nat) : MapEntry := ⟨.int .i64 (k : Int), svF f, n⟩
def svL : Array MapEntry := #[svE 1 73 0, svE 2 74 1, svE 3 75 2, svE 4 76 3, svE 5 77 4]
theorem svK (k : Nat) (h : k < 1000) : keyOf Tryz.prog 3 (.int .i64 (k : Int)) = some (.int .i64 (k : Int)) := keyOf_int_mk Tryz.underlying3 (WalkArith.wf_i64 (by omega))
theorem svPut {W : World} {r n : Nat} {es : Array MapEntry} (hb : W.heap[r]? = some (.map es n)) (k f : Nat) (hk : k < 1000) (hes : ∀ x ∈ es.toList, ∃ j, j < 1000 ∧ j ≠ k ∧ x.key = .int .i64 ((j : Nat) : Int)) :
    ∃ w', (Instr.mapUpdate 66 (.map (some r)) (.int .i64 (k : Int)) (svF f)).run Tryz.prog W = .ok () w' ∧ w'.heap[r]? = some (.map (es.push (svE k f n)) (n + 1)) ∧ W.grownBy w' (some r) :=
  mu_run svLaw Tryz.underlying66 hb (svK k hk) (fun x hx => by obtain ⟨j, hj, _, e⟩ := hes x hx; exact ⟨_, by rw [e]; exact svK j hj⟩) (fun x hx => by obtain ⟨j, hj, hn, e⟩ := hes x hx; rw [e]; intro h; injection h with _ h; omega)
set_option maxRecDepth 100000 in
set_option maxHeartbeats 1000000 in
theorem servicesC (W : World) : Calls Tryz.prog 41 #[] W fun e w' => e = .returned (.map (some W.heap.size)) ∧ w'.heap[W.heap.size]? = some (.map svL 5) ∧ Below W.heap.size W w' := by
  have hmm := @run_makeMap Tryz.prog
  obtain ⟨V1, r1, b1, g1⟩ := svPut (heap_alloc_new W (.map #[] 0)) 1 73 (by omega) (by intro x hx; simp at hx)
  obtain ⟨V2, r2, b2, g2⟩ := svPut b1 2 74 (by omega) (by intro x hx; simp at hx; subst hx; exact ⟨1, by omega, by omega, rfl⟩)
  obtain ⟨V3, r3, b3, g3⟩ := svPut b2 3 75 (by omega) (by intro x hx; simp at hx; rcases hx with rfl | rfl; exact ⟨1, by omega, by omega, rfl⟩; exact ⟨2, by omega, by omega, rfl⟩)
  obtain ⟨V4, r4, b4, g4⟩ := svPut b3 4 76 (by omega) (by intro x hx; simp at hx; rcases hx with rfl | rfl | rfl; exact ⟨1, by omega, by omega, rfl⟩; exact ⟨2, by omega, by omega, rfl⟩; exact ⟨3, by omega, by omega, rfl⟩)
  obtain ⟨V5, r5, b5, g5⟩ := svPut b4 5 77 (by omega) (by intro x hx; simp at hx; rcases hx with rfl | rfl | rfl | rfl; exact ⟨1, by omega, by omega, rfl⟩; exact ⟨2, by omega, by omega, rfl⟩; exact ⟨3, by omega, by omega, rfl⟩; exact ⟨4, by omega, by omega, rfl⟩)
  have HB := Lib.hid b5
  have HG := Lib.hid (Below.grown (below1 W (.map #[] 0)) (gb_then (gb_then (gb_then (gb_then g1 g2) g3) g4) g5) (by simp) (fun k e => by cases e; exact Nat.le_refl _))
  clear b1 b2 b3 b4 b5 g1 g2 g3 g4 g5
  simp only [svF, Int.cast_ofNat_Int] at r1 r2 r3 r4 r5
  go_enter Tryz.func41, Tryz.ntmps41
  go_wp2
  go_ret
  exact ⟨rfl, HB.out, HG.out⟩
/-- what service n makes of a box and of its pages, and what it answers -/
def SvAns (b : Bo) (l : List Pg) (n : Int) (b' : Bo) (l' : List Pg) (v : Int) : Prop :=
  (n = 1 ∧ SvRd b l b' l' v) ∨ (n = 2 ∧ SvWr b l b' l' v) ∨ (n = 3 ∧ SvBk b l b' l' v) ∨ (n = 4 ∧ b' = { b with ck := min (b.ck + 1) 1000000 } ∧ l' = l ∧ v = b.ck) ∨
  (n = 5 ∧ b' = { b with sd := (1103515245 * b.sd + 12345) % 2147483648 } ∧ l' = l ∧ v = (1103515245 * b.sd + 12345) % 2147483648 / 65536) ∨ ((n < 1 ∨ 5 < n) ∧ b' = b ∧ l' = l ∧ v = -38)
theorem SvAns.one {b b1 b2 : Bo} {l l1 l2 : List Pg} {n v1 v2 : Int} (hm : MemOk l) (h : SvAns b l n b1 l1 v1) (h' : SvAns b l n b2 l2 v2) : b1 = b2 ∧ l1 = l2 ∧ v1 = v2 := by
  rcases h with ⟨h0, h1⟩ | ⟨h0, h1⟩ | ⟨h0, h1⟩ | ⟨h0, rfl, rfl, rfl⟩ | ⟨h0, rfl, rfl, rfl⟩ | ⟨h0, rfl, rfl, rfl⟩ <;> rcases h' with ⟨g0, g1⟩ | ⟨g0, g1⟩ | ⟨g0, g1⟩ | ⟨g0, rfl, rfl, rfl⟩ | ⟨g0, rfl, rfl, rfl⟩ | ⟨g0, rfl, rfl, rfl⟩ <;> first | (exfalso; omega) | exact ⟨rfl, rfl, rfl⟩ | exact h1.one hm g1 | exact h1.one g1
def SvTop (B g : Nat) (b : Bo) (l : List Pg) (n : Int) (W : World) (e : Ending) (w' : World) : Prop := ∃ b' l' v, e = .returned (.int .i64 v) ∧ Hid (SvAns b l n b' l' v) ∧ SvTo B g W w' b' l'
theorem SvTo.pre {B g : Nat} {W W1 W2 : World} {b : Bo} {l : List Pg} (hb : Below W.heap.size W W1) (h : SvTo B g W1 W2 b l) : SvTo B g W W2 b l := ⟨h.1, gb_then (gb_below hb _) h.2⟩
theorem svHall : ∀ x ∈ svL.toList, ∃ j, 1 ≤ j ∧ j ≤ 5 ∧ x.key = .int .i64 ((j : Nat) : Int) := by
  intro x hx
  simp [svL] at hx
  rcases hx with rfl | rfl | rfl | rfl | rfl
  · exact ⟨1, by omega, by omega, rfl⟩
  · exact ⟨2, by omega, by omega, rfl⟩
  · exact ⟨3, by omega, by omega, rfl⟩
  · exact ⟨4, by omega, by omega, rfl⟩
  · exact ⟨5, by omega, by omega, rfl⟩
theorem svIn {k : Nat} (h1 : 1 ≤ k) (h2 : k ≤ 5) (f : Nat) (hf : ∀ x ∈ svL.toList, x.key = .int .i64 (k : Int) → x.val = svF f) {W : World} {r : Nat} (hb : W.heap[r]? = some (.map svL 5)) :
    (Instr.lookup 66 (.map (some r)) (.int .i64 (k : Int)) true).run Tryz.prog W = .ok (.tuple #[svF f, .bool true]) W := by
  have hall := svHall
  refine lk_yes svLaw Tryz.underlying66 hb (svK k (by omega)) (fun x hx => by obtain ⟨j, _, hj, e⟩ := hall x hx; exact ⟨_, by rw [e]; exact svK j (by omega)⟩) ?_ hf
  obtain rfl | rfl | rfl | rfl | rfl : k = 1 ∨ k = 2 ∨ k = 3 ∨ k = 4 ∨ k = 5 := by omega
  all_goals simp [svL, svE]
theorem svOut {n : Int} (hw : (Lit.int .i64 n).wf = true) (h : n < 1 ∨ 5 < n) {W : World} {r : Nat} (hb : W.heap[r]? = some (.map svL 5)) :
    (Instr.lookup 66 (.map (some r)) (.int .i64 n) true).run Tryz.prog W = .ok (.tuple #[.nilFunc, .bool false]) W := by
  have hall := svHall
  refine lk_no svLaw Tryz.underlying66 hb (keyOf_int_mk Tryz.underlying3 hw) (fun x hx => by obtain ⟨j, _, hj, e⟩ := hall x hx; exact ⟨_, by rw [e]; exact svK j (by omega)⟩) (fun x hx => ?_) (by kernel_rfl)
  obtain ⟨j, h1, hj, e⟩ := hall x hx
  rw [e]
  intro h9
  injection h9 with _ h9
  omega
theorem ans1 (B g : Nat) (b : Bo) (p : Option Addr) (c : Nat) (l : List Pg) (W : World) (h : BH B g b p c l W) (hB : B ≤ W.heap.size) (ho : BxOk b l) (hs0 : Small l) :
    Calls Tryz.prog 21 #[.pointer (some ⟨g, 0, none⟩), .int .i64 1] W fun e w' => SvTop B g b l 1 W e w' := by
  obtain ⟨o1, o2, o3, o4, o5, o6, o7, o8, o9, o10⟩ := ho
  have CM := Lib.hid (servicesC W)
  have CF := Lib.hid (fun (W1 : World) (h1 : BH B g b p c l W1) (hB1 : B ≤ W1.heap.size) => readC B g b p c l W1 h1 hB1 o2 hs0 o6 o5)
  have HL := Lib.hid (fun (W1 : World) (hb : W1.heap[W.heap.size]? = some (.map svL 5)) => svIn (k := 1) (by omega) (by omega) 73 (by intro x hx; simp [svL] at hx; rcases hx with rfl | rfl | rfl | rfl | rfl <;> first | (intro; rfl) | (intro h9; simp [svE] at h9)) hb)
  have H := Lib.hid h; have HB := Lib.hid hB
  clear h hB o1 o2 o3 o4 o5 o6 o7 o8 o9 o10 hs0
  go_enter Tryz.func21, Tryz.ntmps21
  go_wp2_with fail
  refine (CM.out).mono ?_
  rintro e w1 ⟨rfl, hmap, b1⟩
  have hlk := HL.out w1 hmap
  simp only [svF, Int.cast_ofNat_Int] at hlk
  have CF1 := Lib.hid (CF.out w1 (H.out.below b1) (Nat.le_trans HB.out b1.size))
  have B1 := Lib.hid b1
  clear hmap b1 CM HL CF
  go_wp2_with fail
  refine (CF1.out).mono ?_
  rintro e w2 ⟨b', l', v, rfl, hv, ht⟩
  have HV := Lib.hid hv.out; have HT := Lib.hid ht
  clear hv ht
  go_wp2
  go_ret
  exact ⟨b', l', v, rfl, Lib.hid (.inl ⟨rfl, HV.out⟩), HT.out.pre B1.out⟩
theorem ans2 (B g : Nat) (b : Bo) (p : Option Addr) (c : Nat) (l : List Pg) (W : World) (h : BH B g b p c l W) (hB : B ≤ W.heap.size) (ho : BxOk b l) (hs0 : Small l) :
    Calls Tryz.prog 21 #[.pointer (some ⟨g, 0, none⟩), .int .i64 2] W fun e w' => SvTop B g b l 2 W e w' := by
  obtain ⟨o1, o2, o3, o4, o5, o6, o7, o8, o9, o10⟩ := ho
  have CM := Lib.hid (servicesC W)
  have CF := Lib.hid (fun (W1 : World) (h1 : BH B g b p c l W1) (hB1 : B ≤ W1.heap.size) => writeC B g b p c l W1 h1 o2 hs0 o7)
  have HL := Lib.hid (fun (W1 : World) (hb : W1.heap[W.heap.size]? = some (.map svL 5)) => svIn (k := 2) (by omega) (by omega) 74 (by intro x hx; simp [svL] at hx; rcases hx with rfl | rfl | rfl | rfl | rfl <;> first | (intro; rfl) | (intro h9; simp [svE] at h9)) hb)
  have H := Lib.hid h; have HB := Lib.hid hB
  clear h hB o1 o2 o3 o4 o5 o6 o7 o8 o9 o10 hs0
  go_enter Tryz.func21, Tryz.ntmps21
  go_wp2_with fail
  refine (CM.out).mono ?_
  rintro e w1 ⟨rfl, hmap, b1⟩
  have hlk := HL.out w1 hmap
  simp only [svF, Int.cast_ofNat_Int] at hlk
  have CF1 := Lib.hid (CF.out w1 (H.out.below b1) (Nat.le_trans HB.out b1.size))
  have B1 := Lib.hid b1
  clear hmap b1 CM HL CF
  go_wp2_with fail
  refine (CF1.out).mono ?_
  rintro e w2 ⟨b', l', v, rfl, hv, ht⟩
  have HV := Lib.hid hv.out; have HT := Lib.hid ht
  clear hv ht
  go_wp2
  go_ret
  exact ⟨b', l', v, rfl, Lib.hid (.inr (.inl ⟨rfl, HV.out⟩)), HT.out.pre B1.out⟩
theorem ans3 (B g : Nat) (b : Bo) (p : Option Addr) (c : Nat) (l : List Pg) (W : World) (h : BH B g b p c l W) (hB : B ≤ W.heap.size) (ho : BxOk b l) (hs0 : Small l) :
    Calls Tryz.prog 21 #[.pointer (some ⟨g, 0, none⟩), .int .i64 3] W fun e w' => SvTop B g b l 3 W e w' := by
  obtain ⟨o1, o2, o3, o4, o5, o6, o7, o8, o9, o10⟩ := ho
  have CM := Lib.hid (servicesC W)
  have CF := Lib.hid (fun (W1 : World) (h1 : BH B g b p c l W1) (hB1 : B ≤ W1.heap.size) => growC B g b p c l W1 h1 hB1 o2 hs0 ⟨o3.1, o4.1, o4.2⟩)
  have HL := Lib.hid (fun (W1 : World) (hb : W1.heap[W.heap.size]? = some (.map svL 5)) => svIn (k := 3) (by omega) (by omega) 75 (by intro x hx; simp [svL] at hx; rcases hx with rfl | rfl | rfl | rfl | rfl <;> first | (intro; rfl) | (intro h9; simp [svE] at h9)) hb)
  have H := Lib.hid h; have HB := Lib.hid hB
  clear h hB o1 o2 o3 o4 o5 o6 o7 o8 o9 o10 hs0
  go_enter Tryz.func21, Tryz.ntmps21
  go_wp2_with fail
  refine (CM.out).mono ?_
  rintro e w1 ⟨rfl, hmap, b1⟩
  have hlk := HL.out w1 hmap
  simp only [svF, Int.cast_ofNat_Int] at hlk
  have CF1 := Lib.hid (CF.out w1 (H.out.below b1) (Nat.le_trans HB.out b1.size))
  have B1 := Lib.hid b1
  clear hmap b1 CM HL CF
  go_wp2_with fail
  refine (CF1.out).mono ?_
  rintro e w2 ⟨b', l', v, rfl, hv, ht⟩
  have HV := Lib.hid hv.out; have HT := Lib.hid ht
  clear hv ht
  go_wp2
  go_ret
  exact ⟨b', l', v, rfl, Lib.hid (.inr (.inr (.inl ⟨rfl, HV.out⟩))), HT.out.pre B1.out⟩
theorem ans4 (B g : Nat) (b : Bo) (p : Option Addr) (c : Nat) (l : List Pg) (W : World) (h : BH B g b p c l W) (hB : B ≤ W.heap.size) (ho : BxOk b l) (hs0 : Small l) :
    Calls Tryz.prog 21 #[.pointer (some ⟨g, 0, none⟩), .int .i64 4] W fun e w' => SvTop B g b l 4 W e w' := by
  obtain ⟨o1, o2, o3, o4, o5, o6, o7, o8, o9, o10⟩ := ho
  have CM := Lib.hid (servicesC W)
  have CF := Lib.hid (fun (W1 : World) (h1 : BH B g b p c l W1) (hB1 : B ≤ W1.heap.size) => tickC B g b p c l W1 h1 o8)
  have HL := Lib.hid (fun (W1 : World) (hb : W1.heap[W.heap.size]? = some (.map svL 5)) => svIn (k := 4) (by omega) (by omega) 76 (by intro x hx; simp [svL] at hx; rcases hx with rfl | rfl | rfl | rfl | rfl <;> first | (intro; rfl) | (intro h9; simp [svE] at h9)) hb)
  have H := Lib.hid h; have HB := Lib.hid hB
  clear h hB o1 o2 o3 o4 o5 o6 o7 o8 o9 o10 hs0
  go_enter Tryz.func21, Tryz.ntmps21
  go_wp2_with fail
  refine (CM.out).mono ?_
  rintro e w1 ⟨rfl, hmap, b1⟩
  have hlk := HL.out w1 hmap
  simp only [svF, Int.cast_ofNat_Int] at hlk
  have CF1 := Lib.hid (CF.out w1 (H.out.below b1) (Nat.le_trans HB.out b1.size))
  have B1 := Lib.hid b1
  clear hmap b1 CM HL CF
  go_wp2_with fail
  refine (CF1.out).mono ?_
  rintro e w2 ⟨rfl, ht⟩
  have HT := Lib.hid ht
  clear ht
  go_wp2
  go_ret
  exact ⟨_, l, _, rfl, Lib.hid (.inr (.inr (.inr (.inl ⟨rfl, rfl, rfl, rfl⟩)))), HT.out.pre B1.out⟩
theorem ans5 (B g : Nat) (b : Bo) (p : Option Addr) (c : Nat) (l : List Pg) (W : World) (h : BH B g b p c l W) (hB : B ≤ W.heap.size) (ho : BxOk b l) (hs0 : Small l) :
    Calls Tryz.prog 21 #[.pointer (some ⟨g, 0, none⟩), .int .i64 5] W fun e w' => SvTop B g b l 5 W e w' := by
  obtain ⟨o1, o2, o3, o4, o5, o6, o7, o8, o9, o10⟩ := ho
  have CM := Lib.hid (servicesC W)
  have CF := Lib.hid (fun (W1 : World) (h1 : BH B g b p c l W1) (hB1 : B ≤ W1.heap.size) => randomC B g b p c l W1 h1 o9)
  have HL := Lib.hid (fun (W1 : World) (hb : W1.heap[W.heap.size]? = some (.map svL 5)) => svIn (k := 5) (by omega) (by omega) 77 (by intro x hx; simp [svL] at hx; rcases hx with rfl | rfl | rfl | rfl | rfl <;> first | (intro; rfl) | (intro h9; simp [svE] at h9)) hb)
  have H := Lib.hid h; have HB := Lib.hid hB
  clear h hB o1 o2 o3 o4 o5 o6 o7 o8 o9 o10 hs0
  go_enter Tryz.func21, Tryz.ntmps21
  go_wp2_with fail
  refine (CM.out).mono ?_
  rintro e w1 ⟨rfl, hmap, b1⟩
  have hlk := HL.out w1 hmap
  simp only [svF, Int.cast_ofNat_Int] at hlk
  have CF1 := Lib.hid (CF.out w1 (H.out.below b1) (Nat.le_trans HB.out b1.size))
  have B1 := Lib.hid b1
  clear hmap b1 CM HL CF
  go_wp2_with fail
  refine (CF1.out).mono ?_
  rintro e w2 ⟨rfl, ht⟩
  have HT := Lib.hid ht
  clear ht
  go_wp2
  go_ret
  exact ⟨_, l, _, rfl, Lib.hid (.inr (.inr (.inr (.inr (.inl ⟨rfl, rfl, rfl, rfl⟩))))), HT.out.pre B1.out⟩
theorem ansNo (n : Int) (B g : Nat) (b : Bo) (p : Option Addr) (c : Nat) (l : List Pg) (W : World) (h : BH B g b p c l W) (hw : (Lit.int .i64 n).wf = true) (hn : n < 1 ∨ 5 < n) :
    Calls Tryz.prog 21 #[.pointer (some ⟨g, 0, none⟩), .int .i64 n] W fun e w' => SvTop B g b l n W e w' := by
  have CM := Lib.hid (servicesC W)
  have HL := Lib.hid (fun (W1 : World) (hb : W1.heap[W.heap.size]? = some (.map svL 5)) => svOut hw hn hb)
  have H := Lib.hid h; have HN := Lib.hid hn
  clear h hw hn
  go_enter Tryz.func21, Tryz.ntmps21
  go_wp2_with fail
  refine (CM.out).mono ?_
  rintro e w1 ⟨rfl, hmap, b1⟩
  have hlk := HL.out w1 hmap
  have H1 := Lib.hid (H.out.below b1)
  have B1 := Lib.hid b1
  clear hmap b1 CM HL
  go_wp2
  go_ret
  exact ⟨b, l, _, rfl, Lib.hid (.inr (.inr (.inr (.inr (.inr ⟨HN.out, rfl, rfl, rfl⟩))))), ⟨_, _, H1.out⟩, gb_below B1.out _⟩
/-- impl.Box's answer -/
theorem answerC (n : Int) (B g : Nat) (b : Bo) (p : Option Addr) (c : Nat) (l : List Pg) (W : World) (h : BH B g b p c l W) (hB : B ≤ W.heap.size) (ho : BxOk b l) (hs0 : Small l) (hw : (Lit.int .i64 n).wf = true) :
    Calls Tryz.prog 21 #[.pointer (some ⟨g, 0, none⟩), .int .i64 n] W fun e w' => SvTop B g b l n W e w' := by
  by_cases hn : n < 1 ∨ 5 < n
  · exact ansNo n B g b p c l W h hw hn
  · obtain rfl | rfl | rfl | rfl | rfl : n = 1 ∨ n = 2 ∨ n = 3 ∨ n = 4 ∨ n = 5 := by omega
    · exact ans1 B g b p c l W h hB ho hs0
    · exact ans2 B g b p c l W h hB ho hs0
    · exact ans3 B g b p c l W h hB ho hs0
    · exact ans4 B g b p c l W h hB ho hs0
    · exact ans5 B g b p c l W h hB ho hs0
end Go.Proofs.YtbkgmpkednkbcaaGreatDoor
namespace Go.Proofs.YtbkgmpkednkbcaaGreatDoor
open Go.RowKit Go.Sort
set_option linter.unusedVariables false
set_option linter.unusedSimpArgs false
theorem results_cell_rowC {P : Program} {fn : Func} {p u : Tmp} {ty : TypeId} (h : fn.results = #[.cell p ty, .tmp u]) (tmps : Array Value) (w : World) (g : Nat) (t : TypeId) (cs : Array Value) (fr : Nat × Nat) (d : TypeDesc)
    (hp : tmps.getD p undef = .pointer (some ⟨g, 0, none⟩)) (hg : w.heap[g]? = some (.cells cs t fr))
    (hu : P.underlying ty = some d) (hd : (match d with | .struct _ | .array _ _ => true | _ => false) = true) (hi : (P.info? ty).map (·.size) = some cs.size) :
    (results fn tmps).run P w = .ok (.tuple #[.agg cs, tmps.getD u undef]) w := by
  rw [results_cell_tmp h, hp]
  simp [asAddr, run_loadVar_row w g t ty cs fr d hg hu hd hi]
theorem info30s : (Tryz.prog.info? 36).map (·.size) = some 30 := by kernel_rfl
/-- the boxes that a call begins with: what was handed in, the answer's -/
structure CB0 (w W : World) (A : Array Value) : Prop where
  a : W.heap[w.heap.size]? = some (.cells A 36 (0, 0))
  r : W.heap[w.heap.size + 1]? = some (.cells (boV bo0 (.slice none 0 0)) 36 (0, 0))
  be : Below w.heap.size w W
theorem CB0.new (w : World) (A : Array Value) : CB0 w ((w.alloc (.cells A 36)).alloc (.cells (boV bo0 (.slice none 0 0)) 36)) A := by
  have e1 := heap_alloc_new w (.cells A 36)
  have e2 := heap_alloc_new (w.alloc (.cells A 36)) (.cells (boV bo0 (.slice none 0 0)) 36)
  have z2 : (w.alloc (.cells A 36)).heap.size = w.heap.size + 1 := by simp
  rw [z2] at e2
  exact ⟨(Below.heap_alloc _ _ _ (by simp)).trans e1, e2, ((Below.refl _ _).alloc (Nat.le_refl _) _).alloc (by simp) _⟩
theorem CB0.call {w W W' : World} {A : Array Value} (h : CB0 w W A) (hb : Below W.heap.size W W') : CB0 w W' A :=
  ⟨(hb.block _ (lt_of_blk' h.a)).trans h.a, (hb.block _ (lt_of_blk' h.r)).trans h.r, h.be.trans (hb.mono h.be.size)⟩
theorem CB0.set {w W : World} {b b' : Bo} {m m' : Value} (h : CB0 w W (boV b m)) (i : Nat) (v : Value) (e : (boV b m).setIfInBounds i v = boV b' m') : CB0 w (W.setCell ⟨w.heap.size, i, none⟩ v) (boV b' m') :=
  ⟨row_set h.a i _ e, (Below.heap_setCell _ _ _ _ (by simp)).trans h.r, h.be.setCell (by simp) _⟩
theorem owns_kept3 {W W' : World} {B : Nat} {p : Option Addr} {cap : Nat} {l : List Pg} (h : Owns W B p cap l) (hb : ∀ g, p = some ⟨g, 0, none⟩ → W'.heap[g]? = W.heap[g]?) : Owns W' B p cap l := by
  refine ⟨h.1, ?_⟩
  rcases h.2 with h' | ⟨g', c, cur, e1, e2, e3, e4⟩
  · exact .inl h'
  · refine .inr ⟨g', c, cur, e1, e2, (hb g' (by injection e1)).trans e3, e4⟩
/-- what called answers -/
def CaIs (b : Bo) (l : List Pg) (n : Int) (w : World) (e : Ending) (w' : World) : Prop :=
  ((¬ BxOk b l ∧ e = .returned (.tuple #[.agg (boV bo0 (.slice none 0 0)), .int .i64 1])) ∨ (BxOk b l ∧ ¬ (0 ≤ n ∧ n < 8) ∧ e = .returned (.tuple #[.agg (boV bo0 (.slice none 0 0)), .int .i64 4])) ∨
  (BxOk b l ∧ (0 ≤ n ∧ n < 8) ∧ ∃ p' c', e = .returned (.tuple #[.agg (boV b (.slice p' l.length c')), .int .i64 (if b.st = 1 then 0 else 35)]) ∧ Owns w' w.heap.size p' c' l)) ∧ Below w.heap.size w w'
set_option maxHeartbeats 8000000 in
set_option maxRecDepth 100000 in
theorem calledI (n : Int) (b : Bo) (p : Option Addr) (c : Nat) (l : List Pg) (v : Bool) (w : World) (hv : v = true ↔ FlOK b.c.fl) (HI : ∀ w, Calls Tryz.prog 65 #[.agg (cpV b.c)] w fun e w' => e = .returned (.bool v) ∧ Below w.heap.size w w') (hp : Ad p) (hs : Small l) (hr : Rd w p l) :
    Calls Tryz.prog 20 #[.agg (boV b (.slice p l.length c)), .int .i64 n] w fun e w' => CaIs b l n w e w' := by
  have N0 := Lib.hid (CB0.new w (boV b (.slice p l.length c)))
  have hO := Lib.hid (boV_one bo0 none 0 0)
  have CX := Lib.hid (fun W hR => boxI b p c l v W hv HI hp hs hR)
  have CO := Lib.hid (fun W hR => asItWasC p c l W hp hs hR)
  generalize hA : boV b (.slice p l.length c) = A at *
  have HA := Lib.hid hA
  have HR := Lib.hid (hr.below N0.out.be)
  have SZ : Hid (A.size = 30) := Lib.hid (by rw [← hA]; rfl)
  have hm := mixed
  clear hA hs hr hp hv HI
  go_enter Tryz.func20, Tryz.ntmps20
  go_upto_region 1 with fail
  change Code.wp _ _ _ _ ((w.alloc (.cells A 36)).alloc (.cells (boV bo0 (.slice none 0 0)) 36))
  generalize hW : (w.alloc (.cells A 36)).alloc (.cells (boV bo0 (.slice none 0 0)) 36) = W at *
  clear hW
  go_wp2_with (refine wpList_load_row rfl 36 (.tmp 2) rfl w.heap.size rfl 36 A (0, 0) _ N0.out.a Tryz.underlying36 rfl (by rw [SZ.out]; exact info30s) ?_)
  refine (CX.out _ HR.out).mono ?_
  rintro e w1 ⟨⟨r, rfl, hb⟩, b1⟩
  have M1 := Lib.hid (N0.out.call b1); have HR1 := Lib.hid (HR.out.below b1)
  have HBX := Lib.hid hb.out
  clear b1 N0 HR CX hb
  cases r with
  | false =>
    have HNO : Hid (¬ BxOk b l) := Lib.hid (fun h => by have := HBX.out.2 h; simp at this)
    clear HBX
    go_wp2_with (refine wpList_store_row rfl 36 (.tmp 4) (.tmp 9) rfl (w.heap.size + 1) (boV bo0 (.slice none 0 0)) rfl rfl 36 _ M1.out.r (by rw [boV_size]; exact info30s) rfl hO.out ?_)
    refine bodyPost_ret (v := .tuple #[.agg (boV bo0 (.slice none 0 0)), .int .i64 1]) (by exact results_cell_rowC Tryz.results20 _ _ (w.heap.size + 1) 36 (boV bo0 (.slice none 0 0)) (0, 0) _ rfl (setRow_heap _ _ _ _ _ _ M1.out.r) Tryz.underlying36 rfl (by rw [boV_size]; exact info30s)) (by rfl) ?_
    exact ⟨.inl ⟨HNO.out, rfl⟩, Go.below_setRow M1.out.be (by omega) _⟩
  | true =>
  have HYES : Hid (BxOk b l) := Lib.hid (HBX.out.1 (by trivial))
  clear HBX
  by_cases hn : 0 ≤ n ∧ n < 8
  rotate_left
  · have HN := Lib.hid hn
    by_cases h0 : n < 0
    · have q0 : decide (n < 0) = true := decide_eq_true h0
      clear hn
      go_wp2_with (refine wpList_store_row rfl 36 (.tmp 4) (.tmp 16) rfl (w.heap.size + 1) (boV bo0 (.slice none 0 0)) rfl rfl 36 _ M1.out.r (by rw [boV_size]; exact info30s) rfl hO.out ?_)
      refine bodyPost_ret (v := .tuple #[.agg (boV bo0 (.slice none 0 0)), .int .i64 4]) (by exact results_cell_rowC Tryz.results20 _ _ (w.heap.size + 1) 36 (boV bo0 (.slice none 0 0)) (0, 0) _ rfl (setRow_heap _ _ _ _ _ _ M1.out.r) Tryz.underlying36 rfl (by rw [boV_size]; exact info30s)) (by rfl) ?_
      exact ⟨.inr (.inl ⟨HYES.out, HN.out, rfl⟩), Go.below_setRow M1.out.be (by omega) _⟩
    · have q0 : decide (n < 0) = false := decide_eq_false h0
      have q1 : decide ((8 : Int) ≤ n) = true := decide_eq_true (by omega)
      clear hn
      go_wp2_with (refine wpList_store_row rfl 36 (.tmp 4) (.tmp 16) rfl (w.heap.size + 1) (boV bo0 (.slice none 0 0)) rfl rfl 36 _ M1.out.r (by rw [boV_size]; exact info30s) rfl hO.out ?_)
      refine bodyPost_ret (v := .tuple #[.agg (boV bo0 (.slice none 0 0)), .int .i64 4]) (by exact results_cell_rowC Tryz.results20 _ _ (w.heap.size + 1) 36 (boV bo0 (.slice none 0 0)) (0, 0) _ rfl (setRow_heap _ _ _ _ _ _ M1.out.r) Tryz.underlying36 rfl (by rw [boV_size]; exact info30s)) (by rfl) ?_
      exact ⟨.inr (.inl ⟨HYES.out, HN.out, rfl⟩), Go.below_setRow M1.out.be (by omega) _⟩
  have q0 : decide (n < 0) = false := decide_eq_false (by omega)
  have q1 : decide ((8 : Int) ≤ n) = false := decide_eq_false (by omega)
  have HN := Lib.hid hn
  have a18 := (cell_of_row _ _ 18 _ _ _ M1.out.a).trans (show A[18]? = some (.slice p l.length c) by rw [← HA.out]; rfl)
  clear hn
  go_wp2_with fail
  refine (CO.out _ HR1.out).mono ?_
  rintro e w2 ⟨p', c', rfl, o2, b2⟩
  have M2 := M1.out.call b2
  have z2 := M1.out.be.size
  have lr1 := lt_of_blk' M1.out.r
  have z18 := (cell_of_row _ _ 18 _ _ _ M2.a).trans (show A[18]? = some (.slice p l.length c) by rw [← HA.out]; rfl)
  have f18 : w2.frozen? ⟨w.heap.size, 18, none⟩ = false := by simp [World.frozen?, M2.a]
  have M3 : Hid (CB0 w (w2.setCell ⟨w.heap.size, 18, none⟩ (.slice p' l.length c')) (boV b (.slice p' l.length c'))) := Lib.hid (CB0.set (b := b) (m := .slice p l.length c) (by rw [HA.out]; exact M2) 18 _ (by rfl))
  have O3 : Hid (Owns (w2.setCell ⟨w.heap.size, 18, none⟩ (.slice p' l.length c')) w.heap.size p' c' l) := Lib.hid (Joins.ownsRow_le (owns_other2 o2 (fun g' hg' => by have := (o2.lt g' hg').1; omega) 18 _) (by omega))
  have HG : Hid (∀ j, p' = some ⟨j, 0, none⟩ → j ≠ w.heap.size + 1) := Lib.hid (fun j e => by have := (o2.lt j (by rw [e]; rfl)).1; omega)
  clear o2 b2 M2 M1 HR1 CO a18
  go_upto_region 6 with fail
  generalize w2.setCell ⟨w.heap.size, 18, none⟩ (.slice p' l.length c') = X at *
  have sz := boV_size b (.slice p' l.length c')
  have hO5 := Lib.hid (boV_one b p' l.length c')
  have z26 := (cell_of_row _ _ 26 _ _ _ M3.out.a).trans (show (boV b (.slice p' l.length c'))[26]? = some (.int .i64 b.st) from rfl)
  have MA := Lib.hid M3.out.a
  have D3 := Lib.hid M3.out.be
  have R3 := Lib.hid M3.out.r
  clear M3 z18 f18 z2 lr1
  generalize hV2 : boV b (.slice p' l.length c') = V2 at *
  have HV2 := Lib.hid hV2
  have SZ2 := Lib.hid sz
  clear sz hV2
  have Y5 := Lib.hid (setRow_heap _ _ _ V2 _ _ R3.out)
  have D5 := Lib.hid (Go.below_setRow D3.out (by omega : w.heap.size ≤ w.heap.size + 1) V2)
  have O5 : Hid (Owns (X.setRow (w.heap.size + 1) V2) w.heap.size p' c' l) := Lib.hid (owns_kept3 O3.out (fun j e => setRow_far _ _ _ _ (HG.out j e)))
  by_cases hst : b.st = 1
  · have q2 : (b.st != 1) = false := by rw [hst]; rfl
    have HST := Lib.hid hst
    clear hst
    go_wp2_with (first | (refine wpList_load_row rfl 36 (.tmp 2) rfl w.heap.size rfl 36 V2 (0, 0) _ MA.out Tryz.underlying36 rfl (by rw [SZ2.out]; exact info30s) ?_) | (refine wpList_store_row rfl 36 (.tmp 4) (.tmp 25) rfl (w.heap.size + 1) V2 rfl rfl 36 _ R3.out (by rw [SZ2.out]; exact info30s) (by rw [SZ2.out]; rfl) hO5.out ?_))
    refine bodyPost_ret (v := .tuple #[.agg V2, .int .i64 0]) (by exact results_cell_rowC Tryz.results20 _ _ (w.heap.size + 1) 36 V2 (0, 0) _ rfl Y5.out Tryz.underlying36 rfl (by rw [SZ2.out]; exact info30s)) (by rfl) ?_
    exact ⟨.inr (.inr ⟨HYES.out, HN.out, p', c', by rw [if_pos HST.out, HV2.out], O5.out⟩), D5.out⟩
  · have q2 : (b.st != 1) = true := by simpa using hst
    have HST := Lib.hid hst
    clear hst
    go_wp2_with (first | (refine wpList_load_row rfl 36 (.tmp 2) rfl w.heap.size rfl 36 V2 (0, 0) _ MA.out Tryz.underlying36 rfl (by rw [SZ2.out]; exact info30s) ?_) | (refine wpList_store_row rfl 36 (.tmp 4) (.tmp 24) rfl (w.heap.size + 1) V2 rfl rfl 36 _ R3.out (by rw [SZ2.out]; exact info30s) (by rw [SZ2.out]; rfl) hO5.out ?_))
    refine bodyPost_ret (v := .tuple #[.agg V2, .int .i64 35]) (by exact results_cell_rowC Tryz.results20 _ _ (w.heap.size + 1) 36 V2 (0, 0) _ rfl Y5.out Tryz.underlying36 rfl (by rw [SZ2.out]; exact info30s)) (by rfl) ?_
    exact ⟨.inr (.inr ⟨HYES.out, HN.out, p', c', by rw [if_neg HST.out, HV2.out], O5.out⟩), D5.out⟩
end Go.Proofs.YtbkgmpkednkbcaaGreatDoor
namespace Go.Proofs.YtbkgmpkednkbcaaGreatDoor
open Go.RowKit Go.Sort
set_option linter.unusedVariables false
set_option linter.unusedSimpArgs false
theorem results_cell_row3 {P : Program} {fn : Func} {p u x : Tmp} {ty : TypeId} (h : fn.results = #[.cell p ty, .tmp u, .tmp x]) (tmps : Array Value) (w : World) (g : Nat) (t : TypeId) (cs : Array Value) (fr : Nat × Nat) (d : TypeDesc)
    (hp : tmps.getD p undef = .pointer (some ⟨g, 0, none⟩)) (hg : w.heap[g]? = some (.cells cs t fr))
    (hu : P.underlying ty = some d) (hd : (match d with | .struct _ | .array _ _ => true | _ => false) = true) (hi : (P.info? ty).map (·.size) = some cs.size) :
    (results fn tmps).run P w = .ok (.tuple #[.agg cs, tmps.getD u undef, tmps.getD x undef]) w := by
  have e : (results fn tmps).run P w = ((asAddr (tmps.getD p undef)).run P w).andThen fun a w₁ => ((loadVar ty a).run P w₁).andThen fun v w₂ => .ok (.tuple #[v, tmps.getD u undef, tmps.getD x undef]) w₂ := by
    simp only [results, h]
    simp [Sem.run_bind, Result.andThen]
  rw [e, hp]
  simp [asAddr, run_loadVar_row w g t ty cs fr d hg hu hd hi]
/-- what both Answer tell: a box, its pages, an answer and a code -/
def AnsR (b : Bo) (l : List Pg) (n : Int) (b' : Bo) (l' : List Pg) (v k : Int) : Prop :=
  (¬ BxOk b l ∧ b' = bo0 ∧ l' = [] ∧ v = 0 ∧ k = 1) ∨ (BxOk b l ∧ ¬ (0 ≤ n ∧ n < 8) ∧ b' = bo0 ∧ l' = [] ∧ v = 0 ∧ k = 4) ∨
  (BxOk b l ∧ (0 ≤ n ∧ n < 8) ∧ b.st ≠ 1 ∧ b' = b ∧ l' = l ∧ v = 0 ∧ k = 35) ∨ (BxOk b l ∧ n = 0 ∧ b.st = 1 ∧ b' = b ∧ l' = l ∧ v = 0 ∧ k = 34) ∨
  (BxOk b l ∧ (0 < n ∧ n < 8) ∧ b.st = 1 ∧ SvAns b l n b' l' v ∧ k = 0)
theorem AnsR.one {b b1 b2 : Bo} {l l1 l2 : List Pg} {n v1 v2 k1 k2 : Int} (h : AnsR b l n b1 l1 v1 k1) (h' : AnsR b l n b2 l2 v2 k2) : b1 = b2 ∧ l1 = l2 ∧ v1 = v2 ∧ k1 = k2 := by
  rcases h with ⟨h0, rfl, rfl, rfl, rfl⟩ | ⟨h0, h1, rfl, rfl, rfl, rfl⟩ | ⟨h0, h1, h2, rfl, rfl, rfl, rfl⟩ | ⟨h0, h1, h2, rfl, rfl, rfl, rfl⟩ | ⟨h0, h1, h2, h3, rfl⟩ <;> rcases h' with ⟨g0, rfl, rfl, rfl, rfl⟩ | ⟨g0, g1, rfl, rfl, rfl, rfl⟩ | ⟨g0, g1, g2, rfl, rfl, rfl, rfl⟩ | ⟨g0, g1, g2, rfl, rfl, rfl, rfl⟩ | ⟨g0, g1, g2, g3, rfl⟩ <;> first | exact ⟨rfl, rfl, rfl, rfl⟩ | (exfalso; omega) | exact absurd g0 h0 | exact absurd h0 g0 | exact absurd h2 g2 | exact absurd g2 h2 | (obtain ⟨rfl, rfl, rfl⟩ := h3.one h0.2.1 g3; exact ⟨rfl, rfl, rfl, rfl⟩)
def AnsIs (b : Bo) (l : List Pg) (n : Int) (w : World) (e : Ending) (w' : World) : Prop :=
  ∃ b' l' v k p' c', Hid (AnsR b l n b' l' v k) ∧ e = .returned (.tuple #[.agg (boV b' (.slice p' l'.length c')), .int .i64 v, .int .i64 k]) ∧ Owns w' w.heap.size p' c' l' ∧ Below w.heap.size w w'
theorem CB0.row {w W : World} {A : Array Value} (h : CB0 w W A) (A' : Array Value) : CB0 w (W.setRow w.heap.size A') A' :=
  ⟨setRow_heap _ _ _ _ _ _ h.a, (setRow_far _ _ _ _ (by omega)).trans h.r, Go.below_setRow h.be (Nat.le_refl _) _⟩
theorem owns_row {W : World} {B g : Nat} {p : Option Addr} {c : Nat} {l : List Pg} (h : Owns W B p c l) (A : Array Value) (hn : ∀ j, p = some ⟨j, 0, none⟩ → j ≠ g) : Owns (W.setRow g A) B p c l := owns_kept3 h (fun j e => setRow_far _ _ _ _ (hn j e))
theorem owns_nilS (W : World) (B : Nat) : Owns W B none 0 [] := owns_nil _ _
set_option maxHeartbeats 8000000 in
set_option maxRecDepth 100000 in
theorem answerI (n : Int) (b : Bo) (p : Option Addr) (c : Nat) (l : List Pg) (v : Bool) (w : World) (hw : (Lit.int .i64 n).wf = true) (hv : v = true ↔ FlOK b.c.fl) (HI : ∀ w, Calls Tryz.prog 65 #[.agg (cpV b.c)] w fun e w' => e = .returned (.bool v) ∧ Below w.heap.size w w') (hp : Ad p) (hs : Small l) (hr : Rd w p l) :
    Calls Tryz.prog 8 #[.agg (boV b (.slice p l.length c)), .int .i64 n] w fun e w' => AnsIs b l n w e w' := by
  have N0 := Lib.hid (CB0.new w (boV b (.slice p l.length c)))
  have CX := Lib.hid (fun W hR => calledI n b p c l v W hv HI hp hs hR)
  generalize hA : boV b (.slice p l.length c) = A at *
  have HR := Lib.hid (hr.below N0.out.be)
  have SZ : Hid (A.size = 30) := Lib.hid (by rw [← hA]; rfl)
  have HW := Lib.hid hw; have HS := Lib.hid hs
  have hm := mixed
  clear hA hs hr hp hv HI hw
  go_enter Tryz.func8, Tryz.ntmps8
  go_upto_region 1 with fail
  change Code.wp _ _ _ _ ((w.alloc (.cells A 36)).alloc (.cells (boV bo0 (.slice none 0 0)) 36))
  generalize hW : (w.alloc (.cells A 36)).alloc (.cells (boV bo0 (.slice none 0 0)) 36) = W at *
  clear hW
  go_wp2_with (refine wpList_load_row rfl 36 (.tmp 2) rfl w.heap.size rfl 36 A (0, 0) _ N0.out.a Tryz.underlying36 rfl (by rw [SZ.out]; exact info30s) ?_)
  refine (CX.out _ HR.out).mono ?_
  rintro e w1 ⟨ho, b1⟩
  have M1 := Lib.hid (N0.out.call b1)
  have HWs : Hid (w.heap.size + 1 < W.heap.size) := Lib.hid (lt_of_blk' N0.out.r)
  have HSZ := Lib.hid b1.size
  clear b1 N0 HR CX
  rcases ho with ⟨h0, rfl⟩ | ⟨h0, h1, rfl⟩ | ⟨h0, h1, p', c', rfl, o1⟩
  · have hO := Lib.hid (boV_one bo0 none 0 0)
    have hOb := hO
    have H0 := Lib.hid h0
    have MR := Lib.hid (M1.out.row (boV bo0 (.slice none 0 0)))
    clear h0
    go_upto_region 2 with (refine wpList_store_row rfl 36 (.tmp 2) (.tmp 13) rfl w.heap.size (boV bo0 (.slice none 0 0)) rfl rfl 36 _ M1.out.a (by rw [boV_size]; exact info30s) (by rw [SZ.out]; rfl) hO.out ?_)
    generalize w1.setRow w.heap.size (boV bo0 (.slice none 0 0)) = X at *
    go_wp2_with (first | (refine wpList_load_row rfl 36 (.tmp 2) rfl w.heap.size rfl 36 (boV bo0 (.slice none 0 0)) (0, 0) _ MR.out.a Tryz.underlying36 rfl (by rw [boV_size]; exact info30s) ?_) | (refine wpList_store_row rfl 36 (.tmp 4) (.tmp 17) rfl (w.heap.size + 1) (boV bo0 (.slice none 0 0)) rfl rfl 36 _ MR.out.r (by rw [boV_size]; exact info30s) rfl hOb.out ?_))
    refine bodyPost_ret (v := .tuple #[.agg (boV bo0 (.slice none 0 0)), .int .i64 0, .int .i64 1]) (by exact results_cell_row3 Tryz.results8 _ _ (w.heap.size + 1) 36 (boV bo0 (.slice none 0 0)) (0, 0) _ rfl (setRow_heap _ _ _ _ _ _ MR.out.r) Tryz.underlying36 rfl (by rw [boV_size]; exact info30s)) (by rfl) ?_
    exact ⟨bo0, [], 0, 1, none, 0, Lib.hid (.inl ⟨H0.out, rfl, rfl, rfl, rfl⟩), rfl, owns_nilS _ _, Go.below_setRow MR.out.be (by omega) _⟩
  · have hO := Lib.hid (boV_one bo0 none 0 0)
    have hOb := hO
    have H0 := Lib.hid h0
    have H1 := Lib.hid h1
    have MR := Lib.hid (M1.out.row (boV bo0 (.slice none 0 0)))
    clear h0
    go_upto_region 2 with (refine wpList_store_row rfl 36 (.tmp 2) (.tmp 13) rfl w.heap.size (boV bo0 (.slice none 0 0)) rfl rfl 36 _ M1.out.a (by rw [boV_size]; exact info30s) (by rw [SZ.out]; rfl) hO.out ?_)
    generalize w1.setRow w.heap.size (boV bo0 (.slice none 0 0)) = X at *
    go_wp2_with (first | (refine wpList_load_row rfl 36 (.tmp 2) rfl w.heap.size rfl 36 (boV bo0 (.slice none 0 0)) (0, 0) _ MR.out.a Tryz.underlying36 rfl (by rw [boV_size]; exact info30s) ?_) | (refine wpList_store_row rfl 36 (.tmp 4) (.tmp 17) rfl (w.heap.size + 1) (boV bo0 (.slice none 0 0)) rfl rfl 36 _ MR.out.r (by rw [boV_size]; exact info30s) rfl hOb.out ?_))
    refine bodyPost_ret (v := .tuple #[.agg (boV bo0 (.slice none 0 0)), .int .i64 0, .int .i64 4]) (by exact results_cell_row3 Tryz.results8 _ _ (w.heap.size + 1) 36 (boV bo0 (.slice none 0 0)) (0, 0) _ rfl (setRow_heap _ _ _ _ _ _ MR.out.r) Tryz.underlying36 rfl (by rw [boV_size]; exact info30s)) (by rfl) ?_
    exact ⟨bo0, [], 0, 4, none, 0, Lib.hid (.inr (.inl ⟨H0.out, H1.out, rfl, rfl, rfl, rfl⟩)), rfl, owns_nilS _ _, Go.below_setRow MR.out.be (by omega) _⟩
  have hO := Lib.hid (boV_one b p' l.length c')
  have hOb := hO
  have H0 := Lib.hid h0; have H1 := Lib.hid h1
  have hne : ∀ j, p' = some ⟨j, 0, none⟩ → w.heap.size + 1 < j := fun j e => by have := (o1.lt j (by rw [e]; rfl)).1; have := HWs.out; omega
  have HNE := Lib.hid hne
  have MR := Lib.hid (M1.out.row (boV b (.slice p' l.length c')))
  have OR := Lib.hid (owns_row (g := w.heap.size) o1 (boV b (.slice p' l.length c')) (fun j e => by have := hne j e; omega))
  have HB : Hid (w.heap.size ≤ W.heap.size) := Lib.hid (by have := HWs.out; omega)
  have HXS : Hid (W.heap.size ≤ (w1.setRow w.heap.size (boV b (.slice p' l.length c'))).heap.size) := Lib.hid (Nat.le_trans HSZ.out (Go.below_setRow (Below.refl w.heap.size w1) (Nat.le_refl _) (boV b (.slice p' l.length c'))).size)
  clear h0 h1 o1 hne
  go_upto_region 2 with (refine wpList_store_row rfl 36 (.tmp 2) (.tmp 13) rfl w.heap.size (boV b (.slice p' l.length c')) rfl rfl 36 _ M1.out.a (by rw [boV_size]; exact info30s) (by rw [SZ.out]; rfl) hO.out ?_)
  generalize w1.setRow w.heap.size (boV b (.slice p' l.length c')) = X at *
  by_cases hst : b.st = 1
  rotate_left
  · have HST := Lib.hid hst
    have e0 : (if b.st = 1 then (0 : Int) else 35) = 35 := if_neg hst
    rw [e0]
    clear hst e0
    go_wp2_with (first | (refine wpList_load_row rfl 36 (.tmp 2) rfl w.heap.size rfl 36 (boV b (.slice p' l.length c')) (0, 0) _ MR.out.a Tryz.underlying36 rfl (by rw [boV_size]; exact info30s) ?_) | (refine wpList_store_row rfl 36 (.tmp 4) (.tmp 17) rfl (w.heap.size + 1) (boV b (.slice p' l.length c')) rfl rfl 36 _ MR.out.r (by rw [boV_size]; exact info30s) rfl hOb.out ?_))
    refine bodyPost_ret (v := .tuple #[.agg (boV b (.slice p' l.length c')), .int .i64 0, .int .i64 35]) (by exact results_cell_row3 Tryz.results8 _ _ (w.heap.size + 1) 36 (boV b (.slice p' l.length c')) (0, 0) _ rfl (setRow_heap _ _ _ _ _ _ MR.out.r) Tryz.underlying36 rfl (by rw [boV_size]; exact info30s)) (by rfl) ?_
    exact ⟨b, l, 0, 35, p', c', Lib.hid (.inr (.inr (.inl ⟨H0.out, H1.out, HST.out, rfl, rfl, rfl, rfl⟩))), rfl, Joins.ownsRow_le (owns_row (g := w.heap.size + 1) OR.out _ (fun j e => by have := HNE.out j e; omega)) HB.out, Go.below_setRow MR.out.be (by omega) _⟩
  have HST := Lib.hid hst
  have e0 : (if b.st = 1 then (0 : Int) else 35) = 0 := if_pos hst
  rw [e0]
  clear hst e0
  by_cases hn : n = 0
  · subst hn
    go_wp2_with (first | (refine wpList_load_row rfl 36 (.tmp 2) rfl w.heap.size rfl 36 (boV b (.slice p' l.length c')) (0, 0) _ MR.out.a Tryz.underlying36 rfl (by rw [boV_size]; exact info30s) ?_) | (refine wpList_store_row rfl 36 (.tmp 4) (.tmp 21) rfl (w.heap.size + 1) (boV b (.slice p' l.length c')) rfl rfl 36 _ MR.out.r (by rw [boV_size]; exact info30s) rfl hOb.out ?_))
    refine bodyPost_ret (v := .tuple #[.agg (boV b (.slice p' l.length c')), .int .i64 0, .int .i64 34]) (by exact results_cell_row3 Tryz.results8 _ _ (w.heap.size + 1) 36 (boV b (.slice p' l.length c')) (0, 0) _ rfl (setRow_heap _ _ _ _ _ _ MR.out.r) Tryz.underlying36 rfl (by rw [boV_size]; exact info30s)) (by rfl) ?_
    exact ⟨b, l, 0, 34, p', c', Lib.hid (.inr (.inr (.inr (.inl ⟨H0.out, rfl, HST.out, rfl, rfl, rfl, rfl⟩)))), rfl, Joins.ownsRow_le (owns_row (g := w.heap.size + 1) OR.out _ (fun j e => by have := HNE.out j e; omega)) HB.out, Go.below_setRow MR.out.be (by omega) _⟩
  have q0 : (n == 0) = false := by simpa using hn
  have HN := Lib.hid hn
  have HBH : Hid (BH W.heap.size w.heap.size b p' c' l X) := Lib.hid ⟨MR.out.a, OR.out, by have := HWs.out; omega⟩
  have CA := Lib.hid (answerC n W.heap.size w.heap.size b p' c' l X HBH.out HXS.out H0.out HS.out HW.out)
  clear hn hO hOb OR
  go_wp2_with fail
  refine (CA.out).mono ?_
  rintro e w2 ⟨b', l', v2, rfl, hva, ⟨p2, c2, h2⟩, g2⟩
  have M2 : Hid (CB0 w w2 (boV b' (.slice p2 l'.length c2))) := Lib.hid ⟨h2.x, (g2.block _ (lt_of_blk' MR.out.r) (by simp)).trans MR.out.r, Below.grown MR.out.be g2 MR.out.be.size (fun k e => by cases e; exact Nat.le_refl _)⟩
  have O2 := Lib.hid h2.o
  have HVA := Lib.hid hva.out
  have hO := Lib.hid (boV_one b' p2 l'.length c2)
  have hOb := hO
  clear CA hva h2 g2 MR HBH
  go_wp2_with (first | (refine wpList_load_row rfl 36 (.tmp 2) rfl w.heap.size rfl 36 (boV b' (.slice p2 l'.length c2)) (0, 0) _ M2.out.a Tryz.underlying36 rfl (by rw [boV_size]; exact info30s) ?_) | (refine wpList_store_row rfl 36 (.tmp 4) (.tmp 24) rfl (w.heap.size + 1) (boV b' (.slice p2 l'.length c2)) rfl rfl 36 _ M2.out.r (by rw [boV_size]; exact info30s) rfl hOb.out ?_))
  refine bodyPost_ret (v := .tuple #[.agg (boV b' (.slice p2 l'.length c2)), .int .i64 v2, .int .i64 0]) (by exact results_cell_row3 Tryz.results8 _ _ (w.heap.size + 1) 36 (boV b' (.slice p2 l'.length c2)) (0, 0) _ rfl (setRow_heap _ _ _ _ _ _ M2.out.r) Tryz.underlying36 rfl (by rw [boV_size]; exact info30s)) (by rfl) ?_
  exact ⟨b', l', v2, 0, p2, c2, Lib.hid (.inr (.inr (.inr (.inr ⟨H0.out, ⟨by have := H1.out; have := HN.out; omega, H1.out.2⟩, HST.out, HVA.out, rfl⟩)))), rfl, Joins.ownsRow_le (owns_row (g := w.heap.size + 1) O2.out _ (fun j e => by have := (O2.out.lt j (by rw [e]; rfl)).1; have := HWs.out; omega)) HB.out, Go.below_setRow M2.out.be (by omega) _⟩
end Go.Proofs.YtbkgmpkednkbcaaGreatDoor
