/-
  What impl.SpanOK and spec.SpanOK do: whether each of some bytes of the sandbox has a page with a bit of perm, changing nothing that was there; conditions: those in each head.
-/
import Derived.Test.YtbkgmpkednkbcaaGreatDoorWalkFault
namespace Go.Proofs.YtbkgmpkednkbcaaGreatDoor
open Go.RowKit Go.Sort
set_option linter.unusedVariables false
set_option linter.unusedSimpArgs false
/-- the byte at a has a page with a bit of perm -/
def BitAt (l : List Pg) (a perm : Int) : Prop := ∃ k x, Has l a k x ∧ (bits .and .i64 x.p perm == 0) = false
/-- each of the n bytes from a on has one -/
def SpAll (l : List Pg) (a : Int) (n : Nat) (perm : Int) : Prop := ∀ i : Nat, i < n → BitAt l (a + i) perm
theorem BitAt.not {l : List Pg} (hm : MemOk l) {a perm : Int} {k : Nat} {x : Pg} (hh : Has l a k x) (h : (bits .and .i64 x.p perm == 0) = true) : ¬ BitAt l a perm := by
  rintro ⟨j, y, g, e⟩
  obtain ⟨_, rfl⟩ := Has.one hm hh g
  rw [h] at e; cases e
set_option maxHeartbeats 1000000 in
theorem faultP (p : Option Addr) (cap : Nat) (l : List Pg) (a perm : Int) (n : Nat) (w : World) (hm : MemOk l) (hr : Rd w p l) (hn : n ≤ 8192) (ha : 0 ≤ a) (ha2 : a ≤ 65535) :
    Calls Tryz.prog 80 #[.agg #[.slice p l.length cap], .int .i64 a, .int .i64 n, .int .i64 perm] w fun e w' => ∃ c, e = .returned (.int .i64 c) ∧ Hid (c = 0 ↔ SpAll l a n perm) ∧ Below w.heap.size w w' := by
  obtain ⟨W, hW⟩ : ∃ W, W = w.alloc (.cells #[.slice p l.length cap] 34) := ⟨_, rfl⟩
  have L0 : Hid (Below w.heap.size w W) := Lib.hid (by rw [hW]; exact below1 w _)
  have A0 : Hid (Bx W w.heap.size p cap l) := Lib.hid (by rw [hW]; exact Bx.new _ hr)
  have HW := Lib.hid hW; have HM := Lib.hid hm
  clear hr hm hW
  go_enter Tryz.func80, Tryz.ntmps80
  go_wp2
  rw [← HW.out]
  go_loopw [9] (fun i wr => ∃ k : Nat, k ≤ n ∧ i = .int .i64 k ∧ Hid (SpAll l a k perm) ∧ Hid (Below w.heap.size w wr) ∧ Hid (Bx wr w.heap.size p cap l)) (fun i _ => n - (intOf i).toNat)
  case atStart => exact ⟨0, Nat.zero_le _, rfl, Lib.hid (fun j h => by omega), L0, A0⟩
  case round =>
    obtain ⟨k, hk, rfl, HI, HL, HA⟩ := hrel
    have x1 := HA.out.2.1
    by_cases hlt : k < n
    · have hlt2 : (k : Int) < (n : Int) := by omega
      have C := Lib.hid (inYes a (-(n : Int)) 65535 wr (by omega) ha2)
      have C2 := Lib.hid (findS p cap l (a + k) wr HM.out HA.out.2.2 (by omega) (by omega))
      go_wp2_with fail
      refine (C.out).mono ?_
      rintro e wz ⟨rfl, rfl⟩
      go_wp2_with fail
      refine (C2.out).mono ?_
      rintro e w1 ⟨r, rfl, HFd, b1⟩
      have L1 := Lib.hid (bthen HL.out b1); have A1 := Lib.hid (HA.out.next b1)
      have x2 := A1.out.2.1
      clear b1 x1 C C2
      rcases HFd.out with ⟨j, x, hh, rfl⟩ | ⟨hno, rfl⟩
      · have hjl : j < l.length := (List.getElem?_eq_some_iff.1 hh.1).1
        have hl := HM.out.1
        obtain ⟨b, off, rfl, q0, a0, a1, a2⟩ := A1.out.2.2 j x hh.1
        have HH := Lib.hid hh
        clear hh q0 a0 a2
        cases hb : (bits .and .i64 x.p perm == 0) with
        | false =>
          have HB := Lib.hid hb
          go_wp2
          go_roundw
          case rel =>
            refine ⟨k + 1, by omega, by go_num, Lib.hid (fun i hi => ?_), L1, A1⟩
            by_cases e : i = k
            · subst e; exact ⟨j, x, HH.out, HB.out⟩
            · exact HI.out i (by omega)
          case measure => simp [intOf]; omega
        | true =>
          have HB := Lib.hid hb
          go_wp2
          go_ret
          exact ⟨_, rfl, Lib.hid ⟨fun h => by simp at h, fun h => absurd (h k hlt) (BitAt.not HM.out HH.out HB.out)⟩, L1.out⟩
      · have HN := Lib.hid hno
        clear hno
        go_wp2
        go_ret
        refine ⟨_, rfl, Lib.hid ⟨fun h => by simp at h, fun h => ?_⟩, L1.out⟩
        obtain ⟨j, x, g, _⟩ := h k hlt
        exact absurd g (HN.out j x)
    · obtain rfl : k = n := by omega
      go_wp2
      go_ret
      exact ⟨_, rfl, Lib.hid ⟨fun _ => HI.out, fun _ => rfl⟩, HL.out⟩
/-- offset and length of bytes of the sandbox -/
def SpIn (o n : Int) : Prop := 0 ≤ o ∧ o ≤ 4096 ∧ 0 ≤ n ∧ n ≤ 4096 - o
/-- whether n bytes of the sandbox from o on may be had -/
def SpYes (l : List Pg) (o n perm : Int) : Prop := SpIn o n ∧ SpAll l (16384 + o) n.toNat perm
/-- what both SpanOK answer -/
def SpanIs (l : List Pg) (o n perm : Int) (r : Bool) (c : Int) : Prop :=
  (¬ MemOk l ∧ r = false ∧ c = 1) ∨ (MemOk l ∧ ¬ PermOk perm ∧ r = false ∧ c = 4) ∨ (MemOk l ∧ PermOk perm ∧ (r = true ↔ SpYes l o n perm) ∧ c = 0)
theorem SpanIs.one {l : List Pg} {o n perm c c' : Int} {r r' : Bool} (h : SpanIs l o n perm r c) (h' : SpanIs l o n perm r' c') : r = r' ∧ c = c' := by
  rcases h with ⟨h1, rfl, rfl⟩ | ⟨h1, h2, rfl, rfl⟩ | ⟨h1, h2, h3, rfl⟩ <;> rcases h' with ⟨g1, rfl, rfl⟩ | ⟨g1, g2, rfl, rfl⟩ | ⟨g1, g2, g3, rfl⟩ <;> first | exact ⟨rfl, rfl⟩ | exact absurd h1 g1 | exact absurd g1 h1 | exact absurd h2 g2 | exact absurd g2 h2 | (refine ⟨?_, rfl⟩; have := h3.trans g3.symm; cases r <;> cases r' <;> simp_all)
/-- an answer that tells whether p holds -/
def SpB (p : Prop) (e : Ending) : Prop := ∃ r : Bool, e = .returned (.bool r) ∧ Hid (r = true ↔ p)
set_option maxHeartbeats 1000000 in
/-- spec.l12Span, of a memory that is right -/
theorem spanL (p : Option Addr) (cap : Nat) (l : List Pg) (o n perm : Int) (w : World) (hm : MemOk l) (hr : Rd w p l) :
    Calls Tryz.prog 59 #[.agg #[.slice p l.length cap], .int .i64 o, .int .i64 n, .int .i64 perm] w fun e w' => SpB (SpYes l o n perm) e ∧ Below w.heap.size w w' := by
  obtain ⟨W, hW⟩ : ∃ W, W = w.alloc (.cells #[.slice p l.length cap] 34) := ⟨_, rfl⟩
  have L0 : Hid (Below w.heap.size w W) := Lib.hid (by rw [hW]; exact below1 w _)
  have A0 : Hid (Bx W w.heap.size p cap l) := Lib.hid (by rw [hW]; exact Bx.new _ hr)
  have HW := Lib.hid hW; have HM := Lib.hid hm
  have x1 := A0.out.2.1
  clear hr hm hW
  by_cases ho : 0 ≤ o ∧ o ≤ 4096
  · have C := Lib.hid (inYes o 0 4096 W ho.1 ho.2)
    have e1 : IntKind.i64.wrap (4096 - o) = 4096 - o := IntWalk.i64_in _ (by omega)
    by_cases hn : 0 ≤ n ∧ n ≤ 4096 - o
    · have C2 := Lib.hid (inYes n 0 (4096 - o) W hn.1 hn.2)
      obtain ⟨N, rfl⟩ : ∃ N : Nat, n = N := ⟨n.toNat, by omega⟩
      have e2 : IntKind.i64.wrap (16384 + o) = 16384 + o := IntWalk.i64_in _ (by omega)
      have C3 := Lib.hid (faultP p cap l (16384 + o) perm N W HM.out A0.out.2.2 (by omega) (by omega) (by omega))
      have HI : Hid (SpIn o (N : Int)) := Lib.hid ⟨ho.1, ho.2, by omega, hn.2⟩
      clear ho hn
      go_enter Tryz.func59, Tryz.ntmps59
      go_wp2_with fail
      rw [← HW.out]
      refine (C.out).mono ?_
      rintro e wz ⟨rfl, rfl⟩
      go_wp2_with fail
      refine (C2.out).mono ?_
      rintro e wz ⟨rfl, rfl⟩
      go_wp2_with fail
      refine (C3.out).mono ?_
      rintro e w1 ⟨c, rfl, HC, b1⟩
      have L1 := Lib.hid (bthen L0.out b1)
      clear b1
      go_wp2
      go_ret
      refine ⟨⟨_, rfl, Lib.hid ?_⟩, L1.out⟩
      have h := HC.out
      simp only [beq_iff_eq, SpYes, Int.toNat_natCast]
      exact ⟨fun g => ⟨HI.out, h.1 g⟩, fun g => h.2 g.2⟩
    · have C2 := Lib.hid (inNo n 0 (4096 - o) W (by omega))
      have HN : Hid (¬ SpIn o n) := Lib.hid (fun h => hn ⟨h.2.2.1, h.2.2.2⟩)
      clear ho hn
      go_enter Tryz.func59, Tryz.ntmps59
      go_wp2_with fail
      rw [← HW.out]
      refine (C.out).mono ?_
      rintro e wz ⟨rfl, rfl⟩
      go_wp2_with fail
      refine (C2.out).mono ?_
      rintro e wz ⟨rfl, rfl⟩
      go_wp2
      go_ret
      exact ⟨⟨_, rfl, Lib.hid ⟨fun h => (by simp at h), fun h => absurd h.1 HN.out⟩⟩, L0.out⟩
  · have C := Lib.hid (inNo o 0 4096 W (by omega))
    have HN : Hid (¬ SpIn o n) := Lib.hid (fun h => ho ⟨h.1, h.2.1⟩)
    clear ho
    go_enter Tryz.func59, Tryz.ntmps59
    go_wp2_with fail
    rw [← HW.out]
    refine (C.out).mono ?_
    rintro e wz ⟨rfl, rfl⟩
    go_wp2
    go_ret
    exact ⟨⟨_, rfl, Lib.hid ⟨fun h => (by simp at h), fun h => absurd h.1 HN.out⟩⟩, L0.out⟩
theorem wpS (m : Int) (w : World) (h1 : 0 < m) (h2 : m ≤ 8192) : Calls Tryz.prog 133 #[.int .i64 m] w fun e w' => e = .returned (.int .i64 ((m + 255) / 256 * 256)) ∧ w' = w := by
  have e1 : IntKind.i64.wrap (m + 256) = m + 256 := IntWalk.i64_in _ (by omega)
  have e2 : IntKind.i64.wrap (m + 256 - 1) = m + 256 - 1 := IntWalk.i64_in _ (by omega)
  have e3 : (m + 256 - 1).tdiv 256 = (m + 255) / 256 := by rw [Int.tdiv_eq_ediv_of_nonneg (by omega)]; congr 1; omega
  have e4 : IntKind.i64.wrap ((m + 255) / 256) = (m + 255) / 256 := IntWalk.i64_in _ (by omega)
  have e5 : IntKind.i64.wrap ((m + 255) / 256 * 256) = (m + 255) / 256 * 256 := IntWalk.i64_in _ (by omega)
  go_enter Tryz.func133, Tryz.ntmps133
  go_wp2
  go_ret
  refine ⟨?_, rfl⟩
  first | rfl | (congr 2; omega) | (rw [e5]) | skip
/-- one byte of a page speaks for all of them -/
theorem span_step {l : List Pg} (hm : MemOk l) {o at_ perm : Int} {n : Nat} {k : Nat} {x : Pg} (hi : ∀ i : Nat, i < n → o + i < at_ → BitAt l (16384 + o + i) perm) (hat : 0 ≤ at_) (hh : Has l (16384 + at_) k x) (hb : (bits .and .i64 x.p perm == 0) = false) :
    ∀ i : Nat, i < n → o + i < (at_ + 1 + 255) / 256 * 256 → BitAt l (16384 + o + i) perm := by
  intro i hin hlt
  by_cases h : o + i < at_
  · exact hi i hin h
  · refine ⟨k, x, ⟨hh.1, ?_, ?_⟩, hb⟩
    · have := hh.2.1; omega
    · have h1 := (hm.2.1 k x hh.1).2.2.1
      have h2 := hh.2
      omega
set_option maxHeartbeats 1000000 in
theorem spansC (B0 c g : Nat) (q : Option Addr) (l : List Pg) (o n perm : Int) (w : World) (hm : MemOk l) (hB : w.cell? ⟨B0, 0, none⟩ = some (.slice q l.length c)) (hB0 : B0 < w.heap.size) (ht : Tab w q g l) (wo : (Lit.int .i64 o).wf = true) (wn : (Lit.int .i64 n).wf = true) :
    Calls Tryz.prog 128 #[.pointer (some ⟨B0, 0, none⟩), .int .i64 o, .int .i64 n, .int .i64 perm] w fun e w' => SpB (SpYes l o n perm) e ∧ Below w.heap.size w w' := by
  have HT := Lib.hid ht; have HM := Lib.hid hm; have HB := Lib.hid hB
  clear ht hm hB
  by_cases ho : 0 ≤ o ∧ o ≤ 4096
  · obtain ⟨o1, o2⟩ := ho
    have e1 : IntKind.i64.wrap (4096 - o) = 4096 - o := IntWalk.i64_in _ (by omega)
    by_cases hn : 0 ≤ n ∧ n ≤ 4096 - o
    · obtain ⟨n1, n2⟩ := hn
      obtain ⟨N, rfl⟩ : ∃ N : Nat, n = N := ⟨n.toNat, by omega⟩
      have HI : Hid (SpIn o (N : Int)) := Lib.hid ⟨o1, o2, by omega, n2⟩
      have e2 : IntKind.i64.wrap (o + (N : Int)) = o + N := IntWalk.i64_in _ (by omega)
      clear wo wn
      go_enter Tryz.func128, Tryz.ntmps128
      go_wp2
      go_loopw [9] (fun i wr => ∃ a : Int, o ≤ a ∧ a ≤ 8192 ∧ i = .int .i64 a ∧ Hid (∀ i : Nat, i < N → o + i < a → BitAt l (16384 + o + i) perm) ∧ Hid (Below w.heap.size w wr)) (fun i _ => (8192 - intOf i).toNat)
      case atStart => exact ⟨o, by omega, by omega, rfl, Lib.hid (fun j h h2 => by omega), Lib.hid (Below.refl _ _)⟩
      case round =>
        obtain ⟨a, ha1, ha2, rfl, HI2, HL⟩ := hrel
        by_cases hlt : a < o + N
        · have C := Lib.hid (reachC B0 c g q l (16384 + a) 0 wr HM.out ((HL.out.cell (p := ⟨B0, 0, none⟩) hB0).trans HB.out) (by have := HL.out.size; omega) (HT.out.below HL.out) (by omega) (by omega))
          have e3 : IntKind.i64.wrap (16384 + a) = 16384 + a := IntWalk.i64_in _ (by omega)
          have e4 : IntKind.i64.wrap (a + 1) = a + 1 := IntWalk.i64_in _ (by omega)
          go_wp2_with fail
          refine (C.out).mono ?_
          rintro e w1 ⟨hf, b1⟩
          have L1 := Lib.hid (bthen HL.out b1)
          rcases hf with ⟨k, x, hh, hal, rfl⟩ | ⟨k, x, hh, hal, rfl⟩ | ⟨hno, rfl⟩
          · obtain ⟨h, rfl, _, _, _, a0, a1, a2⟩ := (HT.out.below L1.out) k x hh.1
            have HH := Lib.hid hh
            clear hh hal b1 C a0 a2
            cases hb : (bits .and .i64 x.p perm == 0) with
            | false =>
              have HBt := Lib.hid hb
              have C3 := Lib.hid (wpS (a + 1) w1 (by omega) (by omega))
              have HS := Lib.hid (span_step HM.out HI2.out (by omega) HH.out HBt.out)
              go_wp2_with fail
              refine (C3.out).mono ?_
              rintro e wz ⟨rfl, rfl⟩
              clear C3
              go_wp2
              go_roundw
              case rel => exact ⟨(a + 1 + 255) / 256 * 256, by omega, by omega, rfl, HS, L1⟩
              case measure => simp [intOf]; omega
            | true =>
              have HBt := Lib.hid hb
              go_wp2
              go_ret
              refine ⟨⟨_, rfl, Lib.hid ⟨fun h => (by simp at h), fun h => ?_⟩⟩, L1.out⟩
              have := h.2 (a - o).toNat (by simp; omega)
              rw [show 16384 + o + ((a - o).toNat : Int) = 16384 + a by omega] at this
              exact absurd this (BitAt.not HM.out HH.out HBt.out)
          · rw [allow0] at hal; cases hal
          · have HN := Lib.hid hno
            clear hno b1 C
            go_wp2
            go_ret
            refine ⟨⟨_, rfl, Lib.hid ⟨fun h => (by simp at h), fun h => ?_⟩⟩, L1.out⟩
            obtain ⟨j, x, g, _⟩ := h.2 (a - o).toNat (by simp; omega)
            rw [show 16384 + o + ((a - o).toNat : Int) = 16384 + a by omega] at g
            exact absurd g (HN.out j x)
        · go_wp2
          go_ret
          refine ⟨⟨_, rfl, Lib.hid ⟨fun _ => ⟨HI.out, fun i hi => ?_⟩, fun _ => rfl⟩⟩, HL.out⟩
          simp at hi
          exact HI2.out i hi (by omega)
    · have HN : Hid (¬ SpIn o n) := Lib.hid (fun h => hn ⟨h.2.2.1, h.2.2.2⟩)
      by_cases hn0 : n < 0
      · clear hn
        go_enter Tryz.func128, Tryz.ntmps128
        go_wp2
        go_ret
        exact ⟨⟨_, rfl, Lib.hid ⟨fun h => (by simp at h), fun h => absurd h.1 HN.out⟩⟩, Below.refl _ _⟩
      · have hn1 : 4096 - o < n := by omega
        clear hn
        go_enter Tryz.func128, Tryz.ntmps128
        go_wp2
        go_ret
        exact ⟨⟨_, rfl, Lib.hid ⟨fun h => (by simp at h), fun h => absurd h.1 HN.out⟩⟩, Below.refl _ _⟩
  · have HN : Hid (¬ SpIn o n) := Lib.hid (fun h => ho ⟨h.1, h.2.1⟩)
    by_cases ho0 : o < 0
    · clear ho
      go_enter Tryz.func128, Tryz.ntmps128
      go_wp2
      go_ret
      exact ⟨⟨_, rfl, Lib.hid ⟨fun h => (by simp at h), fun h => absurd h.1 HN.out⟩⟩, Below.refl _ _⟩
    · have ho1 : 4096 < o := by omega
      clear ho
      go_enter Tryz.func128, Tryz.ntmps128
      go_wp2
      go_ret
      exact ⟨⟨_, rfl, Lib.hid ⟨fun h => (by simp at h), fun h => absurd h.1 HN.out⟩⟩, Below.refl _ _⟩
set_option maxHeartbeats 1000000 in
theorem spanI (p : Option Addr) (cap : Nat) (l : List Pg) (o n perm : Int) (w : World) (hp : Ad p) (hs : Small l) (hr : Rd w p l) (wo : (Lit.int .i64 o).wf = true) (wn : (Lit.int .i64 n).wf = true) :
    Calls Tryz.prog 114 #[.agg #[.slice p l.length cap], .int .i64 o, .int .i64 n, .int .i64 perm] w fun e w' => ∃ r c, e = .returned (.tuple #[.bool r, .int .i64 c]) ∧ Hid (SpanIs l o n perm r c) ∧ Below w.heap.size w w' := by
  have hb0 := below1 w (.cells #[.slice p l.length cap] 34)
  have C := Lib.hid (openAll p cap l _ hp hs (hr.below hb0))
  clear hr hs hp
  go_enter Tryz.func114, Tryz.ntmps114
  go_wp2_with fail
  refine (C.out).mono ?_
  rintro e w1 ⟨ho, hb1⟩
  have L1 := Lib.hid (bthen hb0 hb1)
  clear hb0 hb1 C
  rcases ho with ⟨hn, q, m, c, rfl⟩ | ⟨hy, q, c, g, rfl, htab⟩
  · have HM := Lib.hid hn
    clear hn
    go_wp2
    go_ret2
    exact ⟨_, _, rfl, Lib.hid (.inl ⟨HM.out, rfl, rfl⟩), bbox L1.out _⟩
  · obtain ⟨V, hV⟩ : ∃ V, V = w1.alloc (.cells #[.slice q l.length c] 101) := ⟨_, rfl⟩
    have L2 : Hid (Below w.heap.size w V) := Lib.hid (by rw [hV]; exact bbox L1.out _)
    have hB : V.cell? ⟨w1.heap.size, 0, none⟩ = some (.slice q l.length c) := by rw [hV]; exact cell_of_one (heap_alloc_new w1 _)
    have hB0 : w1.heap.size < V.heap.size := by rw [hV]; simp
    have hT : Tab V q g l := by rw [hV]; exact htab.tab.below (below1 _ _)
    have C2 := Lib.hid (spansC w1.heap.size c g q l o n perm V hy hB hB0 hT wo wn)
    have HT := Lib.hid hT; have HV := Lib.hid hV; have HM := Lib.hid hy
    clear hT hV hy htab L1 wo wn
    by_cases hp : PermOk perm
    · have HP := Lib.hid hp
      have C1 := Lib.hid (ipermYes perm V hp)
      clear hp
      go_wp2_with fail
      rw [← HV.out]
      refine (C1.out).mono ?_
      rintro e wz ⟨rfl, rfl⟩
      go_wp2_with fail
      refine (C2.out).mono ?_
      rintro e w2 ⟨⟨r, rfl, HR⟩, b2⟩
      have L3 := Lib.hid (bthen L2.out b2)
      clear b2
      go_wp2
      go_ret2
      exact ⟨_, _, rfl, Lib.hid (.inr (.inr ⟨HM.out, HP.out, HR.out, rfl⟩)), L3.out⟩
    · have HP := Lib.hid hp
      have C1 := Lib.hid (ipermNo perm V hp)
      clear hp
      go_wp2_with fail
      rw [← HV.out]
      refine (C1.out).mono ?_
      rintro e wz ⟨rfl, rfl⟩
      go_wp2
      go_ret2
      exact ⟨_, _, rfl, Lib.hid (.inr (.inl ⟨HM.out, HP.out, rfl, rfl⟩)), L2.out⟩
end Go.Proofs.YtbkgmpkednkbcaaGreatDoor
