/-
  What impl.checkImage and its helpers answer of an image: what Chk tells, as an error, changing nothing that was there; conditions: those in each head.
-/
import Derived.Test.YtcchcinnjahghaaDoorWalkImS2
namespace Go.Proofs.YtcchcinnjahghaaDoor
open Go.RowKit
set_option linter.unusedVariables false
set_option linter.unusedSimpArgs false
theorem belowA (W : World) (o : Obj) : Below W.heap.size W (W.alloc o) := (Below.refl _ _).alloc (Nat.le_refl _) _
theorem belowD (W : World) : Below W.heap.size W W.drew := ⟨rfl, rfl, rfl, Nat.le_refl _, fun _ _ => rfl⟩
def sgV (x : Sg) : Value := .agg #[.int .i64 x.f, .int .i64 x.v, .int .i64 x.m, .string x.d]
theorem endC (x : Sg) (w : World) (h0 : 0 ≤ x.v) (h1 : x.v ≤ 3583) (h2 : 1 ≤ x.m) (h3 : x.m ≤ 3584 - x.v) :
    Calls Tryd.prog 31 #[.agg #[.int .i64 x.f, .int .i64 x.v, .int .i64 x.m, .string x.d]] w fun e w' => e = .returned (.int .i64 (x.v + x.m)) ∧ Below w.heap.size w w' := by
  go_enter Tryd.func31, Tryd.ntmps31
  go_wp2
  go_ret
  exact ⟨rfl, by go_grown⟩
theorem pagesC (n : Int) (w : World) (h0 : 0 ≤ n) (h1 : n ≤ 1000000) :
    Calls Tryd.prog 30 #[.int .i64 n] w fun e w' => e = .returned (.int .i64 (wpN n)) ∧ w = w' := by
  have e1 : wpN n = (n + 256 - 1) / 256 * 256 := by unfold wpN; omega
  rw [e1]
  go_enter Tryd.func30, Tryd.ntmps30
  go_wp2
  go_ret
  exact ⟨rfl, rfl⟩
set_option maxHeartbeats 1000000 in
theorem fitsC (x : Sg) (free : Int) (w : World) (hf : 512 ≤ free) (hs : x.d.size ≤ 9223372036854775807) :
    Calls Tryd.prog 91 #[.agg #[.int .i64 x.f, .int .i64 x.v, .int .i64 x.m, .string x.d], .int .i64 free] w fun e w' => e = .returned (.bool (fitB free x)) ∧ Below w.heap.size w w' := by
  cases hb : fitB free x with
  | true =>
    obtain ⟨t0, t1, t2, t3⟩ := fitYes hb
    have u1 := of_decide_eq_true t1
    have u2 := of_decide_eq_true t2
    obtain ⟨u1, u1'⟩ := u1
    obtain ⟨u2, u2'⟩ := u2
    clear hb t1 t2
    go_enter Tryd.func91, Tryd.ntmps91
    go_wp2
    go_ret
    exact ⟨rfl, by go_grown⟩
  | false =>
    rcases fitNo hb with m1 | ⟨t0, t1⟩ | ⟨t0, t1, t2⟩ | ⟨t0, t1, t2, t3⟩
    · have m1 : (x.v.tmod 256 == 0) = false := beq_eq_false_iff_ne.2 m1
      clear hb
      go_enter Tryd.func91, Tryd.ntmps91
      go_wp2
      go_ret
      exact ⟨rfl, by go_grown⟩
    · have u1 := of_decide_eq_false t1
      clear hb t1
      by_cases a : free ≤ x.v
      · have a2 : ¬ x.v ≤ 3583 := fun h => u1 ⟨a, h⟩
        clear u1
        go_enter Tryd.func91, Tryd.ntmps91
        go_wp2
        go_ret
        exact ⟨rfl, by go_grown⟩
      · clear u1
        go_enter Tryd.func91, Tryd.ntmps91
        go_wp2
        go_ret
        exact ⟨rfl, by go_grown⟩
    · obtain ⟨u1, u1'⟩ := of_decide_eq_true t1
      have u2 := of_decide_eq_false t2
      clear hb t1 t2
      by_cases a : 1 ≤ x.m
      · have a2 : ¬ x.m ≤ 3584 - x.v := fun h => u2 ⟨a, h⟩
        clear u2
        go_enter Tryd.func91, Tryd.ntmps91
        go_wp2
        go_ret
        exact ⟨rfl, by go_grown⟩
      · clear u2
        go_enter Tryd.func91, Tryd.ntmps91
        go_wp2
        go_ret
        exact ⟨rfl, by go_grown⟩
    · obtain ⟨u1, u1'⟩ := of_decide_eq_true t1
      obtain ⟨u2, u2'⟩ := of_decide_eq_true t2
      clear hb t1 t2
      go_enter Tryd.func91, Tryd.ntmps91
      go_wp2
      go_ret
      exact ⟨rfl, by go_grown⟩
set_option maxHeartbeats 1000000 in
theorem isCodeC (x : Sg) (w : World) (h0 : 0 ≤ x.m) (hs : x.d.size ≤ 9223372036854775807) :
    Calls Tryd.prog 92 #[.agg #[.int .i64 x.f, .int .i64 x.v, .int .i64 x.m, .string x.d]] w fun e w' => e = .returned (.bool (codeB x)) ∧ Below w.heap.size w w' := by
  by_cases h1 : (x.d.size : Int) = x.m
  · by_cases h2 : x.m % 32 = 0
    · rw [show codeB x = true from by unfold codeB; rw [Int.tmod_eq_emod_of_nonneg h0]; simp [h1, h2]]
      go_enter Tryd.func92, Tryd.ntmps92
      go_wp2
      go_ret
      exact ⟨rfl, by go_grown⟩
    · rw [show codeB x = false from by unfold codeB; rw [Int.tmod_eq_emod_of_nonneg h0]; simp [h1, h2]]
      have m2 : (x.m % 32 == 0) = false := beq_eq_false_iff_ne.2 h2
      clear h2
      go_enter Tryd.func92, Tryd.ntmps92
      go_wp2
      go_ret
      exact ⟨rfl, by go_grown⟩
  · rw [show codeB x = false from by unfold codeB; simp [h1]]
    have m2 : ((x.d.size : Int) == x.m) = false := beq_eq_false_iff_ne.2 h1
    clear h1
    go_enter Tryd.func92, Tryd.ntmps92
    go_wp2
    go_ret
    exact ⟨rfl, by go_grown⟩
theorem isRunC (x : Sg) (b : Bool) (w : World) (hb : (x.f == 5) = b) :
    Calls Tryd.prog 59 #[.agg #[.int .i64 x.f, .int .i64 x.v, .int .i64 x.m, .string x.d]] w fun e w' => e = .returned (.bool b) ∧ Below w.heap.size w w' := by
  go_enter Tryd.func59, Tryd.ntmps59
  go_wp2
  go_ret
  exact ⟨rfl, by go_grown⟩
set_option maxHeartbeats 1000000 in
theorem idxC (p : Option Addr) (cap : Nat) (l : List Sg) (w : World) (h4 : l.length ≤ 4) (hr : RdS w p l) (k : Nat) (hk : k ≤ l.length) (hno : ∀ (j : Nat) (y : Sg), j < k → l[j]? = some y → y.f ≠ 5) (hyes : ∀ x, l[k]? = some x → x.f = 5) (r : Int) (hr1 : (k < l.length ∧ r = k) ∨ (k = l.length ∧ r = -1)) :
    Calls Tryd.prog 58 #[.slice p l.length cap, .func (.func 59) #[] #[]] w fun e w' => e = .returned (.int .i64 r) ∧ Below w.heap.size w w' := by
  have HR := Lib.hid hr; have HN := Lib.hid hno; have HY := Lib.hid hyes; have H1 := Lib.hid hr1
  clear hr hno hyes hr1
  go_enter Tryd.func58, Tryd.ntmps58
  go_wp2
  go_loopw [5, 8] (fun _ i wr => ∃ (j : Nat), j ≤ k ∧ i = .int .i64 j ∧ Below w.heap.size w wr) (fun _ i _ => l.length - (intOf i).toNat)
  case atStart => exact ⟨0, Nat.zero_le _, rfl, Below.refl _ _⟩
  case round =>
    obtain ⟨j, hj, rfl, hb⟩ := hrel
    by_cases hjl : j < l.length
    · obtain ⟨y, hy⟩ : ∃ y, l[j]? = some y := ⟨_, List.getElem?_eq_getElem hjl⟩
      obtain ⟨b, off, rfl, h0, q0, q1, q2, q3⟩ := HR.out j y hy
      have g0 := (hb.cell (p := ⟨b, off + j * 4, none⟩) h0).trans q0
      have g1 := (hb.cell (p := ⟨b, off + j * 4 + 1, none⟩) h0).trans q1
      have g2 := (hb.cell (p := ⟨b, off + j * 4 + 2, none⟩) h0).trans q2
      have g3 := (hb.cell (p := ⟨b, off + j * 4 + 3, none⟩) h0).trans q3
      by_cases e : j = k
      · subst e
        have hf : (y.f == 5) = true := beq_iff_eq.2 (HY.out y hy)
        have hr : r = j := by rcases H1.out with ⟨_, h⟩ | ⟨h, _⟩; exact h; omega
        have C := Lib.hid (fun w => isRunC y true w hf)
        subst hr
        clear hf hy q0 q1 q2 q3 h0 H1
        go_wp2_with fail
        go_at_call 59
        refine (C.out _).mono ?_
        rintro e w1 ⟨rfl, hb1⟩
        clear g0 g1 g2 g3
        go_wp2
        go_ret
        exact ⟨rfl, hb.trans (hb1.mono hb.size)⟩
      · have hf : (y.f == 5) = false := beq_eq_false_iff_ne.2 (HN.out j y (by omega) hy)
        have C := Lib.hid (fun w => isRunC y false w hf)
        clear hf hy q0 q1 q2 q3 h0
        go_wp2_with fail
        go_at_call 59
        refine (C.out _).mono ?_
        rintro e w1 ⟨rfl, hb1⟩
        clear g0 g1 g2 g3
        go_wp2
        go_roundw
        case rel => exact ⟨j + 1, by omega, by go_num, hb.trans (hb1.mono hb.size)⟩
        case measure => simp [intOf]; omega
    · obtain rfl : j = l.length := by omega
      have hr : r = -1 := by rcases H1.out with ⟨h, _⟩ | ⟨_, h⟩; omega; exact h
      subst hr
      go_wp2
      go_ret
      exact ⟨rfl, hb⟩
/-- what impl.firstRun answers -/
theorem firstC (p : Option Addr) (cap : Nat) (l : List Sg) (w : World) (h4 : l.length ≤ 4) (hr : RdS w p l) (k : Nat) (x : Sg) (hf : FirstRun l k x) :
    Calls Tryd.prog 28 #[.slice p l.length cap] w fun e w' => e = .returned (.tuple #[.agg #[.int .i64 x.f, .int .i64 x.v, .int .i64 x.m, .string x.d], .bool true]) ∧ Below w.heap.size w w' := by
  have hk := (List.getElem?_eq_some_iff.1 hf.1).1
  obtain ⟨b, off, rfl, h0, q0, q1, q2, q3⟩ := hr k x hf.1
  have hb0 : Below w.heap.size w (w.alloc (.cells #[.int .i64 0, .int .i64 0, .int .i64 0, .string ⟨#[]⟩] 61)) := by go_grown
  have C := Lib.hid (idxC (some ⟨b, off, none⟩) cap l _ h4 (hr.below hb0) k (Nat.le_of_lt hk) hf.2.2 (fun y hy => by rw [hf.1] at hy; cases hy; exact hf.2.1) (k : Int) (.inl ⟨hk, rfl⟩))
  clear hr hf
  go_enter Tryd.func28, Tryd.ntmps28
  go_wp2_with fail
  refine (C.out).mono ?_
  rintro e w1 ⟨rfl, hb1⟩
  have hb2 : Below w.heap.size w w1 := hb0.trans (hb1.mono hb0.size)
  have g0 := (hb2.cell (p := ⟨b, off + k * 4, none⟩) h0).trans q0
  have g1 := (hb2.cell (p := ⟨b, off + k * 4 + 1, none⟩) h0).trans q1
  have g2 := (hb2.cell (p := ⟨b, off + k * 4 + 2, none⟩) h0).trans q2
  have g3 := (hb2.cell (p := ⟨b, off + k * 4 + 3, none⟩) h0).trans q3
  have c0 := (hb1.cell (p := ⟨w.heap.size, 0, none⟩) (by simp)).trans (show _ = some (.int .i64 0) by go_cell)
  have c1 := (hb1.cell (p := ⟨w.heap.size, 1, none⟩) (by simp)).trans (show _ = some (.int .i64 0) by go_cell)
  have c2 := (hb1.cell (p := ⟨w.heap.size, 2, none⟩) (by simp)).trans (show _ = some (.int .i64 0) by go_cell)
  have c3 := (hb1.cell (p := ⟨w.heap.size, 3, none⟩) (by simp)).trans (show _ = some (.string ⟨#[]⟩) by go_cell)
  have f0 := (hb1.frozen (p := ⟨w.heap.size, 0, none⟩) (by simp)).trans (show _ = false by simp [go_sem])
  have f1 := (hb1.frozen (p := ⟨w.heap.size, 1, none⟩) (by simp)).trans (show _ = false by simp [go_sem])
  have f2 := (hb1.frozen (p := ⟨w.heap.size, 2, none⟩) (by simp)).trans (show _ = false by simp [go_sem])
  have f3 := (hb1.frozen (p := ⟨w.heap.size, 3, none⟩) (by simp)).trans (show _ = false by simp [go_sem])
  have S := sgSet w1 w.heap.size x (by have := hb1.size; simp at this; omega) c0 c1 c2 c3
  clear q0 q1 q2 q3 hb1 hb0 h0
  go_wp2
  obtain ⟨_, s0, s1, s2, s3⟩ := S
  refine bodyPost_ret (v := .tuple #[.agg #[.int .i64 x.f, .int .i64 x.v, .int .i64 x.m, .string x.d], .bool true]) (by simp [results, Tryd.results28, go_sem, s0, s1, s2, s3]) rfl ?_
  exact ⟨rfl, below4 hb2 (Nat.le_refl _) _ _ _ _⟩
theorem firstNo (p : Option Addr) (cap : Nat) (l : List Sg) (w : World) (h4 : l.length ≤ 4) (hr : RdS w p l) (hno : ∀ (j : Nat) (y : Sg), l[j]? = some y → y.f ≠ 5) :
    Calls Tryd.prog 28 #[.slice p l.length cap] w fun e w' => e = .returned (.tuple #[.agg #[.int .i64 0, .int .i64 0, .int .i64 0, .string ⟨#[]⟩], .bool false]) ∧ Below w.heap.size w w' := by
  have hb0 : Below w.heap.size w (w.alloc (.cells #[.int .i64 0, .int .i64 0, .int .i64 0, .string ⟨#[]⟩] 61)) := by go_grown
  have C := Lib.hid (idxC p cap l _ h4 (hr.below hb0) l.length (Nat.le_refl _) (fun j y _ hy => hno j y hy) (fun y hy => by simp at hy) (-1) (.inr ⟨rfl, rfl⟩))
  clear hr hno
  go_enter Tryd.func28, Tryd.ntmps28
  go_wp2_with fail
  refine (C.out).mono ?_
  rintro e w1 ⟨rfl, hb1⟩
  have hb2 : Below w.heap.size w w1 := hb0.trans (hb1.mono hb0.size)
  have c0 := (hb1.cell (p := ⟨w.heap.size, 0, none⟩) (by simp)).trans (show _ = some (.int .i64 0) by go_cell)
  have c1 := (hb1.cell (p := ⟨w.heap.size, 1, none⟩) (by simp)).trans (show _ = some (.int .i64 0) by go_cell)
  have c2 := (hb1.cell (p := ⟨w.heap.size, 2, none⟩) (by simp)).trans (show _ = some (.int .i64 0) by go_cell)
  have c3 := (hb1.cell (p := ⟨w.heap.size, 3, none⟩) (by simp)).trans (show _ = some (.string ⟨#[]⟩) by go_cell)
  have f0 := (hb1.frozen (p := ⟨w.heap.size, 0, none⟩) (by simp)).trans (show _ = false by simp [go_sem])
  have f1 := (hb1.frozen (p := ⟨w.heap.size, 1, none⟩) (by simp)).trans (show _ = false by simp [go_sem])
  have f2 := (hb1.frozen (p := ⟨w.heap.size, 2, none⟩) (by simp)).trans (show _ = false by simp [go_sem])
  have f3 := (hb1.frozen (p := ⟨w.heap.size, 3, none⟩) (by simp)).trans (show _ = false by simp [go_sem])
  have S := sgSet w1 w.heap.size ⟨0, 0, 0, ⟨#[]⟩⟩ (by have := hb1.size; simp at this; omega) c0 c1 c2 c3
  clear hb1 hb0
  go_wp2
  obtain ⟨_, s0, s1, s2, s3⟩ := S
  refine bodyPost_ret (v := .tuple #[.agg #[.int .i64 0, .int .i64 0, .int .i64 0, .string ⟨#[]⟩], .bool false]) (by simp [results, Tryd.results28, go_sem, s0, s1, s2, s3]) rfl ?_
  exact ⟨rfl, below4 hb2 (Nat.le_refl _) _ _ _ _⟩
theorem first_of {l : List Sg} (h : runOf l = true) : ∃ k x, FirstRun l k x := by
  rcases run_or l l.length (Nat.le_refl _) with hn | ⟨k, x, _, h⟩
  · rw [run_nil (fun j y hy => hn j y (List.getElem?_eq_some_iff.1 hy).1 hy)] at h; cases h
  · exact ⟨k, x, h⟩
theorem none_of {l : List Sg} (h : runOf l = false) : ∀ (j : Nat) (y : Sg), l[j]? = some y → y.f ≠ 5 := by
  intro j y hy
  refine run_none (l := l) (k := l.length) ?_ (List.getElem?_eq_some_iff.1 hy).1 hy
  rw [List.take_length]; exact h
theorem firstAny (p : Option Addr) (cap : Nat) (l : List Sg) (w : World) (h4 : l.length ≤ 4) (hr : RdS w p l) :
    Calls Tryd.prog 28 #[.slice p l.length cap] w fun e w' => (∃ y : Sg, e = .returned (.tuple #[.agg #[.int .i64 y.f, .int .i64 y.v, .int .i64 y.m, .string y.d], .bool (runOf l)])) ∧ Below w.heap.size w w' := by
  cases h : runOf l with
  | true =>
    obtain ⟨k, x, hf⟩ := first_of h
    exact (firstC p cap l w h4 hr k x hf).mono fun e w' ⟨he, hb⟩ => ⟨⟨x, he⟩, hb⟩
  | false => exact (firstNo p cap l w h4 hr (none_of h)).mono fun e w' ⟨he, hb⟩ => ⟨⟨⟨0, 0, 0, ⟨#[]⟩⟩, he⟩, hb⟩
/-- an error that tells a code, none of code 0 -/
def imE (c : Int) : Value := if c = 0 then .nilIface else .iface 83 (.int .i64 c)
theorem SgAt.next {W W' : World} {g : Nat} {x : Sg} (h : SgAt W g x) (hb : Below W.heap.size W W') : SgAt W' g x :=
  ⟨by have := hb.size; have := h.1; omega, (hb.cell (p := ⟨g, 0, none⟩) h.1).trans h.2.1, (hb.cell (p := ⟨g, 1, none⟩) h.1).trans h.2.2.1, (hb.cell (p := ⟨g, 2, none⟩) h.1).trans h.2.2.2.1, (hb.cell (p := ⟨g, 3, none⟩) h.1).trans h.2.2.2.2⟩
theorem free_last {a : List Sg} (h : a ≠ []) : ∃ y, a[a.length - 1]? = some y ∧ freeOf a = wpN (y.v + y.m) := by
  have hl : 0 < a.length := List.length_pos_iff.mpr h
  refine ⟨a[a.length - 1], List.getElem?_eq_getElem (by omega), ?_⟩
  unfold freeOf
  rw [List.getLast?_eq_getElem?, List.getElem?_eq_getElem (by omega)]
set_option maxRecDepth 20000 in
set_option maxHeartbeats 4000000 in
theorem chkSegC (x : Sg) (p : Option Addr) (cap : Nat) (a : List Sg) (w : World) (h4 : a.length ≤ 4) (hr : RdS w p a) (hok : OkTo a a.length) (hs : x.d.size ≤ 9223372036854775807) (V : Value) (hV : imE (segC (freeOf a) (runOf a) x) = V) :
    Calls Tryd.prog 73 #[.agg #[.int .i64 x.f, .int .i64 x.v, .int .i64 x.m, .string x.d], .slice p a.length cap] w fun e w' => e = .returned V ∧ Below w.heap.size w w' := by
  have hfr := okTo_free hok (Nat.le_refl _)
  rw [List.take_length] at hfr
  have HR := Lib.hid hr; have HO := Lib.hid hok; have HV0 := Lib.hid hV
  clear hV
  have B0 := Lib.hid (show Below w.heap.size w (w.alloc (.cells #[.int .i64 x.f, .int .i64 x.v, .int .i64 x.m, .string x.d] 61)) by go_grown)
  have S0 := Lib.hid (sgAlloc w x 61)
  clear hr hok
  go_enter Tryd.func73, Tryd.ntmps73
  go_upto_if 10 with fail
  go_cut [5] from 8 to 18 (fun v W' => v = .int .i64 (freeOf a) ∧ SgAt W' w.heap.size x ∧ Below w.heap.size w W')
  case first =>
    by_cases h0 : a.length = 0
    · have he : freeOf a = 512 := by rw [List.length_eq_zero_iff] at h0; subst h0; rfl
      have HE := Lib.hid he
      clear he
      go_wp2
      go_meet
      case rel => exact ⟨by rw [HE.out], S0.out, B0.out⟩
    · obtain ⟨y, hy, he⟩ := free_last (a := a) (by intro h; rw [h] at h0; simp at h0)
      obtain ⟨b, off, rfl, k0, q0, q1, q2, q3⟩ := HR.out _ y hy
      obtain ⟨a0, a1, a2, a3, _⟩ := okTo_at HO.out (Nat.le_refl _) (by omega) hy
      have b0 := B0.out
      have g0 := (b0.cell (p := ⟨b, off + (a.length - 1) * 4, none⟩) k0).trans q0
      have g1 := (b0.cell (p := ⟨b, off + (a.length - 1) * 4 + 1, none⟩) k0).trans q1
      have g2 := (b0.cell (p := ⟨b, off + (a.length - 1) * 4 + 2, none⟩) k0).trans q2
      have g3 := (b0.cell (p := ⟨b, off + (a.length - 1) * 4 + 3, none⟩) k0).trans q3
      have HE := Lib.hid he
      obtain ⟨m, hm⟩ : ∃ m, a.length = m + 1 := ⟨a.length - 1, by omega⟩
      have C := Lib.hid (fun w => endC y w (by omega) a1 a2 a3)
      have D := Lib.hid (fun w => pagesC (y.v + y.m) w (by omega) (by omega))
      rw [hm] at g0 g1 g2 g3 ⊢
      simp only [Nat.add_sub_cancel] at g0 g1 g2 g3
      clear q0 q1 q2 q3 hy he b0
      go_wp2_with fail
      refine (C.out _).mono ?_
      rintro e w1 ⟨rfl, b1⟩
      have L1 : Below w.heap.size w w1 := B0.out.trans (b1.mono B0.out.size)
      have S1 := S0.out.next b1
      clear g0 g1 g2 g3
      go_wp2_with fail
      refine (D.out _).mono ?_
      rintro e w2 ⟨rfl, rfl⟩
      go_wp2
      rw [← hm]
      go_meet
      case rel => exact ⟨by rw [HE.out], S1, L1⟩
  case rest =>
    obtain ⟨rfl, S1, L1⟩ := hcut
    have s1 := S1
    obtain ⟨z0, z1, z2, z3, z4⟩ := s1
    have C := Lib.hid (firstAny p cap a _ h4 (HR.out.below L1))
    have hv := HV0.out
    generalize hra : runOf a = ru at C hv ⊢
    generalize hfa : freeOf a = fr at hfr hv ⊢
    have HV := Lib.hid hv
    clear hv HV0
    clear hra hfa HO
    go_wp2_with fail
    refine (C.out).mono ?_
    rintro e w1 ⟨⟨y, rfl⟩, b1⟩
    have S2 := S1.next b1
    have L2 : Below w.heap.size w w1 := L1.trans (b1.mono L1.size)
    have z5 := z0
    obtain ⟨W, hW⟩ : ∃ W, W = w1.alloc (.cells #[.int .i64 y.f, .int .i64 y.v, .int .i64 y.m, .string y.d] 61) := ⟨_, rfl⟩
    have S3 : SgAt W w.heap.size x := by rw [hW]; exact S2.next (belowA _ _)
    have L3 : Below w.heap.size w W := by rw [hW]; exact L2.alloc L2.size _
    clear z0 z1 z2 z3 z4 z5 S1 L1 b1 C HR B0 S0 S2
    go_upto_region 5 with fail
    rw [← hW]
    have HS3 := Lib.hid S3
    obtain ⟨z0, z1, z2, z3, z4⟩ := S3
    clear L2 hW
    have F := Lib.hid (fun w => fitsC x fr w hfr.1 hs)
    by_cases hcc : segC fr ru x = 0
    · obtain ⟨y1, y2, y3⟩ := seg_zero hcc
      obtain ⟨_, _, _, s1, s2, s3, s4, s5⟩ := seg_ok hfr.1 hcc
      obtain rfl : V = .nilIface := by have := HV.out; rw [hcc] at this; exact this.symm
      rw [y2] at F
      have e46 : x.f = 5 ∨ (x.f ≠ 5 ∧ (x.f = 4 ∨ x.f = 6)) := by have := f_yes y1; omega
      clear hcc y1 y2
      rcases e46 with h5 | ⟨h5, h46⟩
      · obtain ⟨rfl, hcb⟩ := y3 h5
        have G := Lib.hid (fun w => isCodeC x w (by omega) hs)
        rw [hcb] at G
        clear y3 hcb
        simp only [h5] at F G
        go_wp2_with fail
        refine (F.out _).mono ?_
        rintro e w2 ⟨rfl, b2⟩
        have L4 := L3.trans (b2.mono L3.size)
        obtain ⟨z0, z1, z2, z3, z4⟩ := HS3.out.next b2
        go_wp2_with fail
        refine (G.out _).mono ?_
        rintro e w3 ⟨rfl, b3⟩
        go_wp2
        go_ret
        exact ⟨rfl, L4.trans (b3.mono L4.size)⟩
      · clear y3
        rcases h46 with h6 | h6
        all_goals
          simp only [h6] at F
          go_wp2_with fail
          refine (F.out _).mono ?_
          rintro e w2 ⟨rfl, b2⟩
          have L4 := L3.trans (b2.mono L3.size)
          obtain ⟨z0, z1, z2, z3, z4⟩ := HS3.out.next b2
          go_wp2
          go_ret
          exact ⟨rfl, L4⟩
    · rcases segC_ways hcc with ⟨y1, y2⟩ | ⟨y1, y3, y2⟩ | ⟨y1, y3, y4, y2⟩
      · obtain rfl : V = .iface 83 (.int .i64 14) := by have := HV.out; rw [y2] at this; exact this.symm
        obtain ⟨n4, n5, n6⟩ := f_no y1
        have m4 : (x.f != 4) = true := bne_iff_ne.2 n4
        have m5 : (x.f != 5) = true := bne_iff_ne.2 n5
        have m6 : (x.f != 6) = true := bne_iff_ne.2 n6
        clear hcc y1 y2 n4 n5 n6
        go_wp2
        go_ret
        exact ⟨rfl, L3⟩
      · obtain rfl : V = .iface 83 (.int .i64 31) := by have := HV.out; rw [y2] at this; exact this.symm
        rw [y3] at F
        have G := f_yes y1
        clear hcc y1 y2 y3
        rcases G with h6 | h6 | h6
        all_goals
          simp only [h6] at F
          go_wp2_with fail
          refine (F.out _).mono ?_
          rintro e w2 ⟨rfl, b2⟩
          have L4 := L3.trans (b2.mono L3.size)
          obtain ⟨z0, z1, z2, z3, z4⟩ := HS3.out.next b2
          go_wp2
          go_ret
          exact ⟨rfl, L4⟩
      · obtain rfl : V = .iface 83 (.int .i64 28) := by have := HV.out; rw [y2] at this; exact this.symm
        obtain ⟨_, _, u2, _⟩ := fitYes y1
        have u3 := of_decide_eq_true u2
        rw [y1] at F
        have G := Lib.hid (fun w => isCodeC x w (by omega) hs)
        clear hcc y1 y2 u2 u3
        simp only [y3] at F G
        cases ru with
        | true =>
          clear y4 G
          go_wp2_with fail
          refine (F.out _).mono ?_
          rintro e w2 ⟨rfl, b2⟩
          have L4 := L3.trans (b2.mono L3.size)
          obtain ⟨z0, z1, z2, z3, z4⟩ := HS3.out.next b2
          go_wp2
          go_ret
          exact ⟨rfl, L4⟩
        | false =>
          have y5 : codeB x = false := by rcases y4 with h | h; cases h; exact h
          rw [y5] at G
          clear y4 y5
          go_wp2_with fail
          refine (F.out _).mono ?_
          rintro e w2 ⟨rfl, b2⟩
          have L4 := L3.trans (b2.mono L3.size)
          obtain ⟨z0, z1, z2, z3, z4⟩ := HS3.out.next b2
          go_wp2_with fail
          refine (G.out _).mono ?_
          rintro e w3 ⟨rfl, b3⟩
          go_wp2
          go_ret
          exact ⟨rfl, L4.trans (b3.mono L4.size)⟩
end Go.Proofs.YtcchcinnjahghaaDoor
