/-
  What the program's take does: bytes from an address on, as far as their pages allow what is asked, changing nothing that was there; conditions: those in each head.
-/
import Derived.Test.YtcnmklgcifdmoaaWalkReach
namespace Go.Proofs.Ytcnmklgcifdmoaa
open Go.RowKit Go.Sort
def ByteAt (l : List Pg) (perm a : Int) (v : UInt8) : Prop := ∃ k x, Has l a k x ∧ allowB x.p perm = true ∧ x.d.data.toList[(a - x.b).toNat]? = some v
def CodeAt (l : List Pg) (perm a c : Int) : Prop := (∃ k x, Has l a k x ∧ allowB x.p perm = false ∧ c = 14) ∨ (NoPage l a ∧ c = 13)
/-- bytes t from a on, at most n, and a code: 0 if all n are there, else that of the first byte that cannot be had -/
def TkOut (l : List Pg) (a : Int) (n : Nat) (perm : Int) (t : List UInt8) (c : Int) : Prop :=
  (∀ (i : Nat) v, t[i]? = some v → ByteAt l perm (a + i) v) ∧ ((c = 0 ∧ t.length = n) ∨ (t.length < n ∧ CodeAt l perm (a + t.length) c))
theorem byte_one {l : List Pg} (hm : MemOk l) {perm a : Int} {v v' : UInt8} (h : ByteAt l perm a v) (h' : ByteAt l perm a v') : v = v' := by
  obtain ⟨k, x, h1, _, h2⟩ := h
  obtain ⟨k', x', g1, _, g2⟩ := h'
  obtain ⟨_, rfl⟩ := Has.one hm h1 g1
  rw [h2] at g2; cases g2; rfl
theorem byte_code {l : List Pg} (hm : MemOk l) {perm a c : Int} {v : UInt8} (h : ByteAt l perm a v) (h' : CodeAt l perm a c) : False := by
  obtain ⟨k, x, h1, h2, _⟩ := h
  rcases h' with ⟨k', x', g1, g2, _⟩ | ⟨g, _⟩
  · obtain ⟨_, rfl⟩ := Has.one hm h1 g1
    rw [h2] at g2; cases g2
  · exact g k x h1
theorem code_one {l : List Pg} {perm a c c' : Int} (h : CodeAt l perm a c) (h' : CodeAt l perm a c') : c = c' := by
  rcases h with ⟨k, x, h1, h2, rfl⟩ | ⟨h1, rfl⟩ <;> rcases h' with ⟨k', x', g1, g2, rfl⟩ | ⟨g1, rfl⟩ <;> first | rfl | exact absurd h1 (g1 _ _) | exact absurd g1 (h1 _ _)
theorem code_pos {l : List Pg} {perm a c : Int} (h : CodeAt l perm a c) : c = 14 ∨ c = 13 := by
  rcases h with ⟨_, _, _, _, h⟩ | ⟨_, h⟩
  · exact .inl h
  · exact .inr h
theorem byte_bounds {l : List Pg} (hm : MemOk l) {perm a : Int} {v : UInt8} (h : ByteAt l perm a v) : 0 ≤ a ∧ a ≤ 65790 := by
  obtain ⟨k, x, h1, _, _⟩ := h
  have := hm.2.1 k x h1.1
  have := h1.2
  unfold PgOk at *
  omega
theorem TkOut.lt_false {l : List Pg} (hm : MemOk l) {a : Int} {n : Nat} {perm : Int} {t t' : List UInt8} {c c' : Int} (h : TkOut l a n perm t c) (h' : TkOut l a n perm t' c') : ¬ t.length < t'.length := by
  intro hlt
  rcases h.2 with ⟨_, h2⟩ | ⟨h2, h3⟩
  · rcases h'.2 with ⟨_, g2⟩ | ⟨g2, _⟩ <;> omega
  · exact byte_code hm (h'.1 t.length _ (List.getElem?_eq_getElem hlt)) h3
theorem TkOut.one {l : List Pg} (hm : MemOk l) {a : Int} {n : Nat} {perm : Int} {t t' : List UInt8} {c c' : Int} (h : TkOut l a n perm t c) (h' : TkOut l a n perm t' c') : t = t' ∧ c = c' := by
  have h1 := TkOut.lt_false hm h h'
  have h2 := TkOut.lt_false hm h' h
  have e : t.length = t'.length := by omega
  refine ⟨List.ext_getElem e fun i hi hi' => ?_, ?_⟩
  · exact byte_one hm (h.1 i _ (List.getElem?_eq_getElem hi)) (h'.1 i _ (List.getElem?_eq_getElem hi'))
  · rcases h.2 with ⟨g1, g2⟩ | ⟨g2, g3⟩ <;> rcases h'.2 with ⟨f1, f2⟩ | ⟨f2, f3⟩
    · omega
    · omega
    · omega
    · rw [e] at g3; exact code_one g3 f3
theorem ba_ext {a b : ByteArray} (h : a.data.toList = b.data.toList) : a = b := by
  cases a; cases b
  congr 1
  exact Array.toList_inj.mp h
theorem ba_app (a b : ByteArray) : (a ++ b).data.toList = a.data.toList ++ b.data.toList := by rw [ByteArray.data_append, Array.toList_append]
theorem ba_len (a : ByteArray) : a.data.toList.length = a.size := by rw [Array.length_toList]; rfl
def lenOf : Value → Nat | .string T => T.size | _ => 0
theorem ba_cut (s : ByteArray) (i j : Nat) : (s.extract i j).data.toList = (s.data.toList.take j).drop i := by
  rw [ByteArray.data_extract, Array.toList_extract]
  simp [List.drop_take]
/-- a piece of a page's bytes -/
theorem page_bytes {l : List Pg} {a : Int} {k : Nat} {x : Pg} {perm : Int} (hh : Has l a k x) (hal : allowB x.p perm = true) (i : Nat) (v : UInt8) (h : (x.d.data.toList.drop (a - x.b).toNat)[i]? = some v) (hs : x.d.size = 256) : ByteAt l perm (a + i) v := by
  rw [List.getElem?_drop] at h
  have hlt := (List.getElem?_eq_some_iff.1 h).1
  rw [ba_len, hs] at hlt
  have h1 := hh.2.1
  have h2 := hh.2.2
  refine ⟨k, x, ⟨hh.1, by omega, by omega⟩, hal, ?_⟩
  rw [← h]
  congr 1
  omega
theorem take_step {l : List Pg} {a : Int} {T : ByteArray} {n k : Nat} {x : Pg} {perm : Int} (hi : ∀ (i : Nat) v, T.data.toList[i]? = some v → ByteAt l perm (a + i) v) (hh : Has l (a + T.size) k x) (hal : allowB x.p perm = true) (hs : x.d.size = 256) (hlt : T.size < n) :
    (T ++ (x.d.extract (a + T.size - x.b).toNat x.d.size).extract 0 (min (↑(x.d.size - (a + T.size - x.b).toNat)) ((n : Int) - T.size)).toNat).size ≤ n ∧
    Hid (∀ (i : Nat) v, (T ++ (x.d.extract (a + T.size - x.b).toNat x.d.size).extract 0 (min (↑(x.d.size - (a + T.size - x.b).toNat)) ((n : Int) - T.size)).toNat).data.toList[i]? = some v → ByteAt l perm (a + i) v) ∧
    n - lenOf (.string (T ++ (x.d.extract (a + T.size - x.b).toNat x.d.size).extract 0 (min (↑(x.d.size - (a + T.size - x.b).toNat)) ((n : Int) - T.size)).toNat)) < n - lenOf (.string T) := by
  have h1 := hh.2.1
  have h2 := hh.2.2
  obtain ⟨o, ho⟩ : ∃ o, (a + (T.size : Int) - x.b).toNat = o := ⟨_, rfl⟩
  rw [ho]
  obtain ⟨m, hm⟩ : ∃ m, (min ((x.d.size - o : Nat) : Int) ((n : Int) - T.size)).toNat = m := ⟨_, rfl⟩
  rw [hm]
  have ho2 : o < 256 := by omega
  have hm1 : 0 < m := by omega
  have hm2 : m ≤ n - T.size := by omega
  have hm3 : m ≤ 256 - o := by omega
  have e : ((x.d.extract o x.d.size).extract 0 m).data.toList = (x.d.data.toList.drop o).take m := by
    rw [ba_cut, ba_cut, ← ba_len x.d, List.take_length, List.drop_zero]
  have hl : ((x.d.extract o x.d.size).extract 0 m).size = m := by
    rw [← ba_len, e, List.length_take, List.length_drop, ba_len]; omega
  have hsz : (T ++ (x.d.extract o x.d.size).extract 0 m).size = T.size + m := by
    rw [← ba_len, ba_app, List.length_append, ba_len, ba_len, hl]
  refine ⟨by omega, Lib.hid (fun i v h => ?_), by show n - (T ++ _).size < n - T.size; omega⟩
  rw [ba_app, e] at h
  by_cases hi2 : i < T.size
  · rw [List.getElem?_append_left (by rw [ba_len]; exact hi2)] at h
    exact hi i v h
  · rw [List.getElem?_append_right (by rw [ba_len]; omega), ba_len, List.getElem?_take] at h
    split at h
    · rw [← ho] at h
      have := page_bytes hh hal (i - T.size) v h hs
      rw [show a + (i : Int) = a + (T.size : Int) + ((i - T.size : Nat) : Int) by omega]
      exact this
    · cases h
end Go.Proofs.Ytcnmklgcifdmoaa
