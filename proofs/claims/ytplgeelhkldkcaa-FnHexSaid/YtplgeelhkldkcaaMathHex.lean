/-
  Bytes are read back from their digits: what the digits of a text are, byte by byte, and what reading them gives; condition: texts of at most 32768 bytes.
-/
import Derived.Test.YtplgeelhkldkcaaWalkHex
import Derived.Test.YtplgeelhkldkcaaWalkUnhex
namespace Go.Proofs.Ytplgeelhkldkcaa
open Go.RowKit
theorem digF : ∀ n : Fin 16, digI (hexB n.val).toNat = n.val := by decide +kernel
theorem dig_hex (n : Nat) (h : n < 16) : digI (hexB n).toNat = n := digF ⟨n, h⟩
theorem hexL_even : ∀ (l : List UInt8) (k : Nat), (hexL l)[2 * k]? = l[k]?.map fun c => hexB (c.toNat / 16)
  | [], k => by simp [hexL]
  | c :: r, 0 => by simp [hexL]
  | c :: r, k + 1 => by
    have e : hexL (c :: r) = [hexB (c.toNat / 16), hexB (c.toNat % 16)] ++ hexL r := by simp [hexL]
    rw [e, show 2 * (k + 1) = 2 * k + 2 from by omega, List.getElem?_append_right (by simp)]
    simpa using hexL_even r k
theorem hexL_odd : ∀ (l : List UInt8) (k : Nat), (hexL l)[2 * k + 1]? = l[k]?.map fun c => hexB (c.toNat % 16)
  | [], k => by simp [hexL]
  | c :: r, 0 => by simp [hexL]
  | c :: r, k + 1 => by
    have e : hexL (c :: r) = [hexB (c.toNat / 16), hexB (c.toNat % 16)] ++ hexL r := by simp [hexL]
    rw [e, show 2 * (k + 1) + 1 = 2 * k + 1 + 2 from by omega, List.getElem?_append_right (by simp)]
    simpa using hexL_odd r k
theorem hexL_len : ∀ l : List UInt8, (hexL l).length = 2 * l.length
  | [] => rfl
  | c :: r => by
    have e : hexL (c :: r) = [hexB (c.toNat / 16), hexB (c.toNat % 16)] ++ hexL r := by simp [hexL]
    rw [e]; simp [hexL_len r]; omega
theorem gb_list (s : ByteArray) (i : Nat) : gb s i = ((s.data.toList[i]?.map fun c => (c.toNat : Int)).getD 0) := by
  unfold gb
  by_cases h : i < s.size
  · have e : s.data.toList[i]? = some s[i] := by
      rw [List.getElem?_eq_getElem (by simpa using h)]; rfl
    rw [dif_pos h, e]; rfl
  · rw [dif_neg h, List.getElem?_eq_none (by simpa using h)]; rfl
/-- the text l, and some bytes behind its digits -/
def hexX (l x : List UInt8) : ByteArray := ⟨(hexL l ++ x).toArray⟩
theorem hexX_size (l x : List UInt8) : (hexX l x).size = 2 * l.length + x.length := by simp [hexX, ByteArray.size, hexL_len]
theorem good_hex (l x : List UInt8) (k : Nat) (h : k < l.length) : goodB (hexX l x) (2 * k) = true ∧ byteB (hexX l x) (2 * k) = l[k] := by
  have e1 : gb (hexX l x) (2 * k) = ((hexB (l[k].toNat / 16)).toNat : Int) := by
    rw [gb_list]; simp only [hexX]
    rw [List.getElem?_append_left (by rw [hexL_len]; omega), hexL_even, List.getElem?_eq_getElem h]; rfl
  have e2 : gb (hexX l x) (2 * k + 1) = ((hexB (l[k].toNat % 16)).toNat : Int) := by
    rw [gb_list]; simp only [hexX]
    rw [List.getElem?_append_left (by rw [hexL_len]; omega), hexL_odd, List.getElem?_eq_getElem h]; rfl
  have hb := l[k].toNat_lt
  unfold goodB byteB
  rw [e1, e2, dig_hex _ (by omega), dig_hex _ (by omega)]
  refine ⟨decide_eq_true (by omega), ?_⟩
  have e3 : (16 * ((l[k].toNat / 16 : Nat) : Int) + ((l[k].toNat % 16 : Nat) : Int)).toNat = l[k].toNat := by omega
  rw [e3, UInt8.ofNat_toNat]
theorem decN_hex (l x : List UInt8) : ∀ k, k ≤ l.length → decN (hexX l x) k = some (l.take k)
  | 0, _ => rfl
  | k + 1, h => by
    obtain ⟨g1, g2⟩ := good_hex l x k (by omega)
    simp only [decN, decN_hex l x k (by omega), g1, g2]
    simp
theorem un_hex (l : List UInt8) (h : l.length ≤ 32768) : unS (hexX l []) = ⟨l.toArray⟩ ∧ unC (hexX l []) = 0 := by
  have hs := hexX_size l []
  simp only [List.length_nil, Nat.add_zero] at hs
  refine un_some (by omega) (by omega) ?_
  rw [hs, show 2 * l.length / 2 = l.length from by omega, decN_hex l [] _ (Nat.le_refl _), List.take_length]
theorem un_hex1 (l : List UInt8) (h : l.length ≤ 32767) (c : UInt8) : unC (hexX l [c]) = 3 := by
  have hs := hexX_size l [c]
  simp only [List.length_cons, List.length_nil] at hs
  exact (un_odd (by omega) (by omega)).2
theorem un_hexG (l : List UInt8) (h : l.length ≤ 32767) : unC (hexX l [48, 71]) = 3 := by
  have hs := hexX_size l [48, 71]
  simp only [List.length_cons, List.length_nil] at hs
  refine (un_none (by omega) (decN_bad (j := 2 * l.length) (by omega) ?_ (by omega))).2
  have e2 : gb (hexX l [48, 71]) (2 * l.length + 1) = 71 := by
    rw [gb_list]; simp only [hexX]
    rw [List.getElem?_append_right (by rw [hexL_len]; omega), hexL_len]
    rw [show 2 * l.length + 1 - 2 * l.length = 1 from by omega]; rfl
  unfold goodB
  rw [e2]
  exact decide_eq_false (by intro h; exact absurd h.2 (by decide))
theorem hexS_X (s : ByteArray) : hexS s = hexX s.data.toList [] := by simp [hexS, hexX]
end Go.Proofs.Ytplgeelhkldkcaa
