/-
  What the program's take does: bytes from an address on, as far as their pages allow what is asked, changing nothing that was there; conditions: those in each head.
-/
import Derived.Test.YtbkgmpkednkbcaaGreatDoorWalkReach
namespace Go.Proofs.YtbkgmpkednkbcaaGreatDoor
open Go.RowKit Go.Sort
def ByteAt (l : List Pg) (perm a : Int) (v : UInt8) : Prop := ∃ k x, Has l a k x ∧ allowB x.p perm = true ∧ x.d.data.toList[(a - x.b).toNat]? = some v
def CodeAt (l : List Pg) (perm a c : Int) : Prop := (∃ k x, Has l a k x ∧ allowB x.p perm = false ∧ c = 14) ∨ (NoPage l a ∧ c = 13)
/-- bytes t from a on, at most n, and a code: 0 if all n are there, else that of the first byte that cannot be had -/
def TkOut (l : List Pg) (a : Int) (n : Nat) (perm : Int) (t : List UInt8) (c : Int) : Prop :=
  (∀ (i : Nat) v, t[i]? = some v → ByteAt l perm (a + i) v) ∧ ((c = 0 ∧ t.length = n) ∨ (t.length < n ∧ CodeAt l perm (a + t.length) c))
theorem byte_one {l : List Pg} (hm : MemOk l) {perm a : Int} {v v' : UInt8} (h : ByteAt l perm a v) (h' : ByteAt l perm a v') : v = v' := by
  obtain ⟨k, x, h1, _, h2⟩ := h
  obtain ⟨k', x', g1, _, g2⟩ := h'
  obtain ⟨_, rfl⟩ := Has.one hm h1 g1
  rw [h2] at g2; cases g2; rfl
theorem byte_code {l : List Pg} (hm : MemOk l) {perm a c : Int} {v : UInt8} (h : ByteAt l perm a v) (h' : CodeAt l perm a c) : False := by
  obtain ⟨k, x, h1, h2, _⟩ := h
  rcases h' with ⟨k', x', g1, g2, _⟩ | ⟨g, _⟩
  · obtain ⟨_, rfl⟩ := Has.one hm h1 g1
    rw [h2] at g2; cases g2
  · exact g k x h1
theorem code_one {l : List Pg} {perm a c c' : Int} (h : CodeAt l perm a c) (h' : CodeAt l perm a c') : c = c' := by
  rcases h with ⟨k, x, h1, h2, rfl⟩ | ⟨h1, rfl⟩ <;> rcases h' with ⟨k', x', g1, g2, rfl⟩ | ⟨g1, rfl⟩ <;> first | rfl | exact absurd h1 (g1 _ _) | exact absurd g1 (h1 _ _)
theorem code_pos {l : List Pg} {perm a c : Int} (h : CodeAt l perm a c) : c = 14 ∨ c = 13 := by
  rcases h with ⟨_, _, _, _, h⟩ | ⟨_, h⟩
  · exact .inl h
  · exact .inr h
theorem byte_bounds {l : List Pg} (hm : MemOk l) {perm a : Int} {v : UInt8} (h : ByteAt l perm a v) : 0 ≤ a ∧ a ≤ 65790 := by
  obtain ⟨k, x, h1, _, _⟩ := h
  have := hm.2.1 k x h1.1
  have := h1.2
  unfold PgOk at *
  omega
theorem TkOut.lt_false {l : List Pg} (hm : MemOk l) {a : Int} {n : Nat} {perm : Int} {t t' : List UInt8} {c c' : Int} (h : TkOut l a n perm t c) (h' : TkOut l a n perm t' c') : ¬ t.length < t'.length := by
  intro hlt
  rcases h.2 with ⟨_, h2⟩ | ⟨h2, h3⟩
  · rcases h'.2 with ⟨_, g2⟩ | ⟨g2, _⟩ <;> omega
  · exact byte_code hm (h'.1 t.length _ (List.getElem?_eq_getElem hlt)) h3
theorem TkOut.one {l : List Pg} (hm : MemOk l) {a : Int} {n : Nat} {perm : Int} {t t' : List UInt8} {c c' : Int} (h : TkOut l a n perm t c) (h' : TkOut l a n perm t' c') : t = t' ∧ c = c' := by
  have h1 := TkOut.lt_false hm h h'
  have h2 := TkOut.lt_false hm h' h
  have e : t.length = t'.length := by omega
  refine ⟨List.ext_getElem e fun i hi hi' => ?_, ?_⟩
  · exact byte_one hm (h.1 i _ (List.getElem?_eq_getElem hi)) (h'.1 i _ (List.getElem?_eq_getElem hi'))
  · rcases h.2 with ⟨g1, g2⟩ | ⟨g2, g3⟩ <;> rcases h'.2 with ⟨f1, f2⟩ | ⟨f2, f3⟩
    · omega
    · omega
    · omega
    · rw [e] at g3; exact code_one g3 f3
theorem ba_ext {a b : ByteArray} (h : a.data.toList = b.data.toList) : a = b := by
  cases a; cases b
  congr 1
  exact Array.toList_inj.mp h
theorem ba_app (a b : ByteArray) : (a ++ b).data.toList = a.data.toList ++ b.data.toList := by rw [ByteArray.data_append, Array.toList_append]
theorem ba_len (a : ByteArray) : a.data.toList.length = a.size := by rw [Array.length_toList]; rfl
def lenOf : Value → Nat | .string T => T.size | _ => 0
theorem ba_cut (s : ByteArray) (i j : Nat) : (s.extract i j).data.toList = (s.data.toList.take j).drop i := by
  rw [ByteArray.data_extract, Array.toList_extract]
  simp [List.drop_take]
/-- a piece of a page's bytes -/
theorem page_bytes {l : List Pg} {a : Int} {k : Nat} {x : Pg} {perm : Int} (hh : Has l a k x) (hal : allowB x.p perm = true) (i : Nat) (v : UInt8) (h : (x.d.data.toList.drop (a - x.b).toNat)[i]? = some v) (hs : x.d.size = 256) : ByteAt l perm (a + i) v := by
  rw [List.getElem?_drop] at h
  have hlt := (List.getElem?_eq_some_iff.1 h).1
  rw [ba_len, hs] at hlt
  have h1 := hh.2.1
  have h2 := hh.2.2
  refine ⟨k, x, ⟨hh.1, by omega, by omega⟩, hal, ?_⟩
  rw [← h]
  congr 1
  omega
set_option maxHeartbeats 400000 in
theorem fromC (x : Pg) (a : Int) (g o : Nat) (w : World) (c0 : w.cell? ⟨g, o, none⟩ = some (.int .i64 x.b)) (c2 : w.cell? ⟨g, o + 2, none⟩ = some (.string x.d)) (hs : x.d.size = 256) (h1 : x.b ≤ a) (h2 : a < x.b + 256) :
    Calls Tryz.prog 107 #[.pointer (some ⟨g, o, none⟩), .int .i64 a] w fun e w' => e = .returned (.string (x.d.extract (a - x.b).toNat x.d.size)) ∧ ∃ m, w' = w.drewN m := by
  have hm := mixed
  obtain ⟨k, hk⟩ : ∃ k : Nat, (k : Int) = a - x.b := ⟨(a - x.b).toNat, by omega⟩
  have ew : IntKind.i64.wrap (a - x.b) = (k : Int) := by rw [IntKind.wrap_i64]; omega
  have e0 : (a - x.b).toNat = k := by omega
  have hk2 : k < x.d.size := by omega
  have hk3 : k ≤ x.d.size := by omega
  have hk4 : (k : Int) ≤ (x.d.size : Int) := by omega
  rw [e0]
  clear hk h1 h2 hs e0
  go_enter Tryz.func107, Tryz.ntmps107
  go_wp2_with fail
  go_quiet (fail)
  go_wp2
  go_ret
  exact ⟨rfl, nq, rfl⟩
theorem take_step {l : List Pg} {a : Int} {T : ByteArray} {n k : Nat} {x : Pg} {perm : Int} (hi : ∀ (i : Nat) v, T.data.toList[i]? = some v → ByteAt l perm (a + i) v) (hh : Has l (a + T.size) k x) (hal : allowB x.p perm = true) (hs : x.d.size = 256) (hlt : T.size < n) :
    (T ++ (x.d.extract (a + T.size - x.b).toNat x.d.size).extract 0 (min (↑(x.d.size - (a + T.size - x.b).toNat)) ((n : Int) - T.size)).toNat).size ≤ n ∧
    Hid (∀ (i : Nat) v, (T ++ (x.d.extract (a + T.size - x.b).toNat x.d.size).extract 0 (min (↑(x.d.size - (a + T.size - x.b).toNat)) ((n : Int) - T.size)).toNat).data.toList[i]? = some v → ByteAt l perm (a + i) v) ∧
    n - lenOf (.string (T ++ (x.d.extract (a + T.size - x.b).toNat x.d.size).extract 0 (min (↑(x.d.size - (a + T.size - x.b).toNat)) ((n : Int) - T.size)).toNat)) < n - lenOf (.string T) := by
  have h1 := hh.2.1
  have h2 := hh.2.2
  obtain ⟨o, ho⟩ : ∃ o, (a + (T.size : Int) - x.b).toNat = o := ⟨_, rfl⟩
  rw [ho]
  obtain ⟨m, hm⟩ : ∃ m, (min ((x.d.size - o : Nat) : Int) ((n : Int) - T.size)).toNat = m := ⟨_, rfl⟩
  rw [hm]
  have ho2 : o < 256 := by omega
  have hm1 : 0 < m := by omega
  have hm2 : m ≤ n - T.size := by omega
  have hm3 : m ≤ 256 - o := by omega
  have e : ((x.d.extract o x.d.size).extract 0 m).data.toList = (x.d.data.toList.drop o).take m := by
    rw [ba_cut, ba_cut, ← ba_len x.d, List.take_length, List.drop_zero]
  have hl : ((x.d.extract o x.d.size).extract 0 m).size = m := by
    rw [← ba_len, e, List.length_take, List.length_drop, ba_len]; omega
  have hsz : (T ++ (x.d.extract o x.d.size).extract 0 m).size = T.size + m := by
    rw [← ba_len, ba_app, List.length_append, ba_len, ba_len, hl]
  refine ⟨by omega, Lib.hid (fun i v h => ?_), by show n - (T ++ _).size < n - T.size; omega⟩
  rw [ba_app, e] at h
  by_cases hi2 : i < T.size
  · rw [List.getElem?_append_left (by rw [ba_len]; exact hi2)] at h
    exact hi i v h
  · rw [List.getElem?_append_right (by rw [ba_len]; omega), ba_len, List.getElem?_take] at h
    split at h
    · rw [← ho] at h
      have := page_bytes hh hal (i - T.size) v h hs
      rw [show a + (i : Int) = a + (T.size : Int) + ((i - T.size : Nat) : Int) by omega]
      exact this
    · cases h
set_option maxHeartbeats 1000000 in
theorem takeC (B0 c g : Nat) (q : Option Addr) (l : List Pg) (a perm : Int) (n : Nat) (w : World) (hm : MemOk l) (hB : w.cell? ⟨B0, 0, none⟩ = some (.slice q l.length c)) (hB0 : B0 < w.heap.size) (ht : Tab w q g l) (h1 : -9223372036854775808 ≤ a) (h2 : a ≤ 9223372036854775807) (hn : n ≤ 8192) :
    Calls Tryz.prog 86 #[.pointer (some ⟨B0, 0, none⟩), .int .i64 a, .int .i64 n, .int .i64 perm] w fun e w' => ∃ T k, e = .returned (.tuple #[.string T, .int .i64 k]) ∧ Hid (TkOut l a n perm T.data.toList k) ∧ Below w.heap.size w w' := by
  have HT := Lib.hid ht; have HM := Lib.hid hm; have HB := Lib.hid hB
  clear ht hm hB
  go_enter Tryz.func86, Tryz.ntmps86
  go_wp2
  go_loopw [10] (fun s wr => ∃ T : ByteArray, s = .string T ∧ T.size ≤ n ∧ Hid (∀ (i : Nat) v, T.data.toList[i]? = some v → ByteAt l perm (a + i) v) ∧ Hid (Below w.heap.size w wr)) (fun s _ => n - lenOf s)
  case atStart => exact ⟨⟨#[]⟩, rfl, Nat.zero_le _, Lib.hid (fun i v h => by simp at h), Lib.hid (Below.refl _ _)⟩
  case round =>
    obtain ⟨T, rfl, hT, HI, HL⟩ := hrel
    by_cases hlt : T.size < n
    · have hlt2 : (T.size : Int) < (n : Int) := by omega
      have hbd : T.size = 0 ∨ (0 ≤ a ∧ a ≤ 65790) := by
        by_cases h0 : T.size = 0
        · exact .inl h0
        · refine .inr ?_
          have hl : 0 < T.data.toList.length := by rw [ba_len]; omega
          have := byte_bounds HM.out (HI.out 0 _ (List.getElem?_eq_getElem hl))
          simpa using this
      have b1 : -9223372036854775808 ≤ a + (T.size : Int) := by omega
      have b2 : a + (T.size : Int) ≤ 9223372036854775807 := by omega
      have C := Lib.hid (reachC B0 c g q l (a + T.size) perm wr HM.out ((HL.out.cell (p := ⟨B0, 0, none⟩) hB0).trans HB.out) (by have := HL.out.size; omega) (HT.out.below HL.out) b1 b2)
      clear hbd
      go_wp2_with fail
      refine (C.out).mono ?_
      rintro e w1 ⟨ho, hb⟩
      have L1 := Lib.hid (bthen HL.out hb)
      rcases ho with ⟨k, x, hh, hal, rfl⟩ | ⟨k, x, hh, hal, rfl⟩ | ⟨hno, rfl⟩
      · obtain ⟨h, e1, q0, q1, a0, a1, a2, a3⟩ := ((HT.out.below HL.out).below hb) k x hh.1
        have hok := HM.out.2.1 k x hh.1
        have hsz : x.d.size = 256 := hok.2.2.2.2.2
        have C1 := Lib.hid (fromC x (a + T.size) g (k * 3) w1 a1 a3 hsz hh.2.1 hh.2.2)
        have HH := Lib.hid hh; have HAL := Lib.hid hal; have HSZ := Lib.hid hsz
        clear hh hal e1 q0 q1 a0 a1 a2 a3 hb C hok hsz
        go_wp2_with fail
        refine (C1.out).mono ?_
        rintro e w2 ⟨rfl, m, rfl⟩
        obtain ⟨s1, s2, s3⟩ := take_step HI.out HH.out HAL.out HSZ.out hlt
        have S1 := Lib.hid s1; have S2 := Lib.hid s2; have S3 := Lib.hid s3
        clear s1 s2 s3
        go_wp2
        go_roundw
        case rel => exact ⟨_, rfl, S1.out, S2.out, Lib.hid (L1.out.trans (below_draw m))⟩
        case measure => exact S3.out
      · have HH := Lib.hid hh; have HAL := Lib.hid hal
        clear hh hal hb C
        go_wp2
        go_ret2
        exact ⟨T, 14, rfl, Lib.hid ⟨HI.out, .inr ⟨by rw [ba_len]; exact hlt, .inl ⟨k, x, by rw [ba_len]; exact HH.out, HAL.out, rfl⟩⟩⟩, L1.out⟩
      · have HN := Lib.hid hno
        clear hno hb C
        go_wp2
        go_ret2
        exact ⟨T, 13, rfl, Lib.hid ⟨HI.out, .inr ⟨by rw [ba_len]; exact hlt, .inr ⟨by rw [ba_len]; exact HN.out, rfl⟩⟩⟩, L1.out⟩
    · have e : T.size = n := by omega
      go_wp2
      go_ret2
      exact ⟨T, 0, rfl, Lib.hid ⟨HI.out, .inl ⟨rfl, by rw [ba_len]; exact e⟩⟩, HL.out⟩
end Go.Proofs.YtbkgmpkednkbcaaGreatDoor
