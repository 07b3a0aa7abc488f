/-
  What spec.BytesOf and impl.BytesOf do: for every text both return the bytes whose digits it is with code 0, or nothing with code 2 (longer than 65536 bytes) or 3 (an odd length or no digit), and change nothing that was there; no condition.
-/
import Derived.Test.YtplgeelhkldkcaaBytes
import Derived.Test.YtplgeelhkldkcaaShelf
namespace Go.Proofs.Ytplgeelhkldkcaa
open Go.RowKit
def digI (c : Int) : Int := if 48 ≤ c ∧ c ≤ 57 then c - 48 else if 97 ≤ c ∧ c ≤ 102 then c - 87 else -1
theorem digI_bd (c : Int) : -1 ≤ digI c ∧ digI c ≤ 15 := by unfold digI; split <;> (try split) <;> omega
def gb (s : ByteArray) (i : Nat) : Int := if h : i < s.size then (s[i].toNat : Int) else 0
theorem gb_at (s : ByteArray) (i : Nat) (h : i < s.size) : (s[i].toNat : Int) = gb s i := by simp [gb, h]
def goodB (s : ByteArray) (j : Nat) : Bool := decide (0 ≤ digI (gb s j) ∧ 0 ≤ digI (gb s (j + 1)))
def byteB (s : ByteArray) (j : Nat) : UInt8 := UInt8.ofNat (16 * digI (gb s j) + digI (gb s (j + 1))).toNat
def decN (s : ByteArray) : Nat → Option (List UInt8)
  | 0 => some []
  | k + 1 => (decN s k).bind fun l => if goodB s (2 * k) = true then some (l ++ [byteB s (2 * k)]) else none
theorem decN_none (s : ByteArray) (k m : Nat) (h : decN s k = none) (hm : k ≤ m) : decN s m = none := by
  induction m with
  | zero => obtain rfl : k = 0 := by omega
            exact h
  | succ m ih =>
    by_cases e : k = m + 1
    · rw [← e]; exact h
    · simp [decN, ih (by omega)]
theorem decN_bad {s : ByteArray} {j m : Nat} (he : j % 2 = 0) (h : goodB s j = false) (hm : j / 2 < m) : decN s m = none := by
  refine decN_none s (j / 2 + 1) m ?_ hm
  have e : 2 * (j / 2) = j := by omega
  simp only [decN, e, h]
  cases decN s (j / 2) <;> rfl
theorem decN_good {s : ByteArray} {j : Nat} {l : List UInt8} (he : j % 2 = 0) (h : goodB s j = true) (hl : decN s (j / 2) = some l) : decN s ((j + 2) / 2) = some (l ++ [byteB s j]) := by
  have e : 2 * (j / 2) = j := by omega
  rw [show (j + 2) / 2 = j / 2 + 1 from by omega]
  simp only [decN, e, h, hl]; rfl
theorem good_of {s : ByteArray} {j : Nat} {a b : Int} (ha : a = digI (gb s j)) (hb : b = digI (gb s (j + 1))) (h1 : 0 ≤ a) (h2 : 0 ≤ b) : goodB s j = true := by
  subst ha hb; exact decide_eq_true ⟨h1, h2⟩
theorem bad_of {s : ByteArray} {j : Nat} {a b : Int} (ha : a = digI (gb s j)) (hb : b = digI (gb s (j + 1))) (h : ¬ (0 ≤ a ∧ 0 ≤ b)) : goodB s j = false := by
  subst ha hb; exact decide_eq_false h
theorem byte_of {s : ByteArray} {j : Nat} {a b : Int} (ha : a = digI (gb s j)) (hb : b = digI (gb s (j + 1))) (h1 : 0 ≤ a) (h2 : 0 ≤ b) : 16 * a + b = ((byteB s j).toNat : Int) := by
  have b1 := digI_bd (gb s j); have b2 := digI_bd (gb s (j + 1))
  subst ha hb
  unfold byteB
  generalize digI (gb s j) = a at *
  generalize digI (gb s (j + 1)) = b at *
  have e : (UInt8.ofNat (16 * a + b).toNat).toNat = (16 * a + b).toNat % 256 := UInt8.toNat_ofNat'
  rw [e]
  omega
/-- what both functions answer -/
def unS (s : ByteArray) : ByteArray := if s.size ≤ 65536 ∧ s.size % 2 = 0 then (match decN s (s.size / 2) with | some l => ⟨l.toArray⟩ | none => ⟨#[]⟩) else ⟨#[]⟩
def unC (s : ByteArray) : Int := if s.size ≤ 65536 then (if s.size % 2 = 0 then (match decN s (s.size / 2) with | some _ => 0 | none => 3) else 3) else 2
theorem un_long {s : ByteArray} (h : ¬ s.size ≤ 65536) : unS s = ⟨#[]⟩ ∧ unC s = 2 := by simp [unS, unC, h]
theorem un_odd {s : ByteArray} (h : s.size ≤ 65536) (h2 : s.size % 2 ≠ 0) : unS s = ⟨#[]⟩ ∧ unC s = 3 := by simp [unS, unC, h, h2]
theorem un_none {s : ByteArray} (h : s.size ≤ 65536) (h2 : decN s (s.size / 2) = none) : unS s = ⟨#[]⟩ ∧ unC s = 3 := by
  refine ⟨?_, ?_⟩
  · unfold unS; split
    · rw [h2]
    · rfl
  · simp [unC, h, h2]
theorem un_some {s : ByteArray} {l : List UInt8} (h : s.size ≤ 65536) (h1 : s.size % 2 = 0) (h2 : decN s (s.size / 2) = some l) : unS s = ⟨l.toArray⟩ ∧ unC s = 0 := by simp [unS, unC, h, h1, h2]
theorem ret_si {a b : ByteArray} {c d : Int} (h : a = b ∧ c = d) : Ending.returned (.tuple #[.string a, .int .i64 c]) = .returned (.tuple #[.string b, .int .i64 d]) := by rw [h.1, h.2]
theorem ret_sb {a b : ByteArray} {c d : Bool} (h : a = b) (h2 : c = d) : Ending.returned (.tuple #[.string a, .bool c]) = .returned (.tuple #[.string b, .bool d]) := by rw [h, h2]
def hexT : List UInt8 := [48, 49, 50, 51, 52, 53, 54, 55, 56, 57, 97, 98, 99, 100, 101, 102]
theorem idxF : ∀ n : Fin 256, Lib.indexByte hexT (UInt8.ofNat n.val) = digI n.val := by decide +kernel
theorem idx (c : UInt8) : Lib.indexByte hexT c = digI c.toNat := by
  have h := idxF ⟨c.toNat, c.toNat_lt⟩
  simpa using h
theorem implDig (c : UInt8) (w : World) :
    Calls Try.prog 27 #[.string ⟨#[48, 49, 50, 51, 52, 53, 54, 55, 56, 57, 97, 98, 99, 100, 101, 102]⟩, .int .u8 (c.toNat : Int)] w fun e w' => e = .returned (.int .i64 (digI c.toNat)) ∧ w = w' := by
  refine (Try.strings_IndexByte _ (c.toNat : Int) w).mono fun e w' ⟨he, hw⟩ => ⟨?_, hw.symm⟩
  rw [he, ← idx c]
  have e : ((c.toNat : Int)).toNat.toUInt8 = c := by simp
  rw [e]; rfl
set_option maxHeartbeats 400000 in
theorem specDig (c : Int) (w : World) (h0 : 0 ≤ c) (h1 : c ≤ 255) :
    Calls Try.prog 37 #[.int .u8 c] w fun e w' => e = .returned (.int .i64 (digI c)) ∧ w = w' := by
  by_cases a : 48 ≤ c ∧ c ≤ 57
  · have e : digI c = c - 48 := by unfold digI; rw [if_pos a]
    have E := Lib.hid e; clear e
    obtain ⟨a1, a2⟩ := a
    go_enter Try.func37, Try.ntmps37
    go_wp2
    go_ret
    exact ⟨by rw [E.out]; rfl, rfl⟩
  · by_cases b : 97 ≤ c ∧ c ≤ 102
    · have e : digI c = c - 87 := by unfold digI; rw [if_neg a, if_pos b]
      have E := Lib.hid e; clear e a
      obtain ⟨b1, b2⟩ := b
      have a2 : 57 < c := by omega
      go_enter Try.func37, Try.ntmps37
      go_wp2
      go_ret
      exact ⟨by rw [E.out]; rfl, rfl⟩
    · have e : digI c = -1 := by unfold digI; rw [if_neg a, if_neg b]
      have E := Lib.hid e; clear e
      rcases (show c < 48 ∨ 57 < c ∧ c < 97 ∨ 102 < c from by omega) with h | ⟨h, h'⟩ | h
      all_goals
        clear a b
        go_enter Try.func37, Try.ntmps37
        go_wp2
        go_ret
        exact ⟨by rw [E.out]; rfl, rfl⟩
theorem specDigAt {s : ByteArray} {j : Nat} {a : Int} (h : j < s.size) (ha : a = digI (gb s j)) (w : World) :
    Calls Try.prog 37 #[.int .u8 (s[j].toNat : Int)] w fun e w' => e = .returned (.int .i64 a) ∧ w = w' := by
  subst ha; rw [← gb_at s j h]; exact specDig _ w (by omega) (by have := s[j].toNat_lt; omega)
theorem implDigAt {s : ByteArray} {j : Nat} {a : Int} (h : j < s.size) (ha : a = digI (gb s j)) (w : World) :
    Calls Try.prog 27 #[.string ⟨#[48, 49, 50, 51, 52, 53, 54, 55, 56, 57, 97, 98, 99, 100, 101, 102]⟩, .int .u8 (s[j].toNat : Int)] w fun e w' => e = .returned (.int .i64 a) ∧ w = w' := by
  subst ha; rw [← gb_at s j h]; exact implDig _ w
set_option maxHeartbeats 1000000 in
theorem specUn (s : ByteArray) (w : World) (hs : s.size ≤ 65536) (hev : s.size % 2 = 0) :
    Calls Try.prog 29 #[.string s] w fun e w' => e = .returned (.tuple #[.string (unS s), .bool (unC s == 0)]) ∧ Below w.heap.size w w' := by
  obtain ⟨i0, hi, hz0, hz1, hz2⟩ := info_parts infoB
  have t1 : (s.size : Int).tmod 2 = 0 := by rw [Int.tmod_eq_emod_of_nonneg (by omega)]; omega
  go_enter Try.func29, Try.ntmps29
  go_wp2
  go_loopw [4, 5, 6, 7] (fun v i _ _ wr => ∃ (j n g cap : Nat) (l : List UInt8), j ≤ s.size ∧ i = .int .i64 j ∧ v = .slice (some ⟨g, 0, none⟩) n cap ∧ wr.ownsRow w.heap.size 5 1 (.slice (some ⟨g, 0, none⟩) n cap) n (BV l) ∧ Below w.heap.size w wr ∧ n ≤ j ∧ Hid (j % 2 = 0) ∧ Hid (decN s (j / 2) = some l)) (fun _ i _ _ _ => s.size - (intOf i).toNat)
  case atStart =>
    exact ⟨0, 0, w.heap.size, 0, [], Nat.zero_le _, rfl, rfl, World.ownsRow_made w #[] 0 (Nat.le_refl _) (Nat.zero_le _) rfl, (Below.refl _ _).alloc (Nat.le_refl _) _, Nat.le_refl _, Lib.hid rfl, Lib.hid rfl⟩
  case round =>
    obtain ⟨j, n, g, cap, l, hj, rfl, rfl, hown, hnx, hnj, HE, HD⟩ := hrel
    by_cases hlt : j < s.size
    · have hlt2 : j + 1 < s.size := by have := HE.out; omega
      have hlt3 : (j : Int) + 1 < s.size := by omega
      have hp1 : ((j : Int) + 1).toNat = j + 1 := by omega
      obtain ⟨a, ha⟩ : ∃ a, a = digI (gb s j) := ⟨_, rfl⟩
      obtain ⟨b, hb⟩ : ∃ b, b = digI (gb s (j + 1)) := ⟨_, rfl⟩
      have bd1 := digI_bd (gb s j)
      rw [← ha] at bd1
      have bd2 := digI_bd (gb s (j + 1))
      rw [← hb] at bd2
      have HA := Lib.hid ha; have HB := Lib.hid hb; clear ha hb
      obtain ⟨a0, a1⟩ := bd1
      obtain ⟨b0, b1⟩ := bd2
      have hsz := hnx.size
      by_cases ga : 0 ≤ a
      · by_cases gb' : 0 ≤ b
        · have FB := Lib.hid (byte_of HA.out HB.out ga gb')
          have HD' := Lib.hid (decN_good HE.out (good_of HA.out HB.out ga gb') HD.out)
          go_wp2_with fail
          refine (specDigAt hlt HA.out _).mono ?_
          rintro e w' ⟨rfl, rfl⟩
          go_wp2_with fail
          refine (specDigAt hlt2 HB.out _).mono ?_
          rintro e w' ⟨rfl, rfl⟩
          have fb := FB.out
          have fb2 : IntKind.u8.wrap (16 * a + b) = ((byteB s j).toNat : Int) := by rw [← fb, IntKind.wrap_u8]; omega
          have hm1 : n + 1 ≤ maxLen := by unfold maxLen; omega
          have hb1 : (n + 1) * 1 ≤ 140737488355328 := by omega
          go_wp2_with (at_builtin; refine wpList_append_lies _ rfl _ _ _ rfl w.heap.size 5 i0 (.int .u8 0) 1 1 Try.underlying22 hi hz0 hz1 hz2 rfl (by omega) _ n (BV l) rfl (hown.alloc _) ⟨wr.heap.size, 0, none⟩ 1 1 (BV [byteB s j]) rfl rfl (news1' _ _) (BV_one _) (by omega) hm1 hb1 (by simp; omega) (wr.heap.size + 1) (by simp) ?_; intro g' cap' w1 hown1 hgrow hat hlt1)
          rw [BV_app] at hown1
          have hb2 := below_app' hnx hgrow (fun j hj => (hown.lt j hj).1)
          have HE' : Hid ((j + 2) % 2 = 0) := Lib.hid (by have := HE.out; omega)
          clear fb fb2 hown hnx hgrow hat hlt1 hm1 hb1 hsz
          go_wp2
          go_roundw
          case rel => exact ⟨j + 2, n + 1, g', cap', l ++ [byteB s j], by omega, by go_num, rfl, hown1, hb2, by omega, HE', HD'⟩
          case measure => simp [intOf]; omega
        · have HU := Lib.hid (un_none hs (decN_bad HE.out (bad_of HA.out HB.out (by omega)) (by omega)))
          go_wp2_with fail
          refine (specDigAt hlt HA.out _).mono ?_
          rintro e w' ⟨rfl, rfl⟩
          go_wp2_with fail
          refine (specDigAt hlt2 HB.out _).mono ?_
          rintro e w' ⟨rfl, rfl⟩
          go_wp2
          go_ret2
          exact ⟨ret_sb HU.out.1.symm (by rw [HU.out.2]; rfl), hnx⟩
      · have HU := Lib.hid (un_none hs (decN_bad HE.out (bad_of HA.out HB.out (by omega)) (by omega)))
        go_wp2_with fail
        refine (specDigAt hlt HA.out _).mono ?_
        rintro e w' ⟨rfl, rfl⟩
        go_wp2_with fail
        refine (specDigAt hlt2 HB.out _).mono ?_
        rintro e w' ⟨rfl, rfl⟩
        go_wp2
        go_ret2
        exact ⟨ret_sb HU.out.1.symm (by rw [HU.out.2]; rfl), hnx⟩
    · have hconv := str_own hown
      obtain rfl : j = s.size := by omega
      have HU := Lib.hid (un_some hs hev HD.out)
      go_wp2
      go_ret2
      exact ⟨ret_sb HU.out.1.symm (by rw [HU.out.2]; rfl), hnx⟩
set_option maxHeartbeats 400000 in
theorem specUnOdd (s : ByteArray) (w : World) (hs : s.size ≤ 65536) (hev : s.size % 2 ≠ 0) :
    Calls Try.prog 29 #[.string s] w fun e w' => e = .returned (.tuple #[.string (unS s), .bool (unC s == 0)]) ∧ Below w.heap.size w w' := by
  have HU := Lib.hid (un_odd hs hev)
  have t1 : ((s.size : Int) % 2 != 0) = true := bne_iff_ne.mpr (by omega)
  clear hev
  go_enter Try.func29, Try.ntmps29
  go_wp2
  go_ret2
  exact ⟨ret_sb HU.out.1.symm (by rw [HU.out.2]; rfl), Below.refl _ _⟩
theorem specUnAny (s : ByteArray) (w : World) (hs : s.size ≤ 65536) :
    Calls Try.prog 29 #[.string s] w fun e w' => e = .returned (.tuple #[.string (unS s), .bool (unC s == 0)]) ∧ Below w.heap.size w w' := by
  by_cases h : s.size % 2 = 0
  · exact specUn s w hs h
  · exact specUnOdd s w hs h
theorem unC_cases (s : ByteArray) (hs : s.size ≤ 65536) : unC s = 0 ∨ (unS s = ⟨#[]⟩ ∧ unC s = 3) := by
  by_cases h : s.size % 2 = 0
  · cases hd : decN s (s.size / 2) with
    | none => exact .inr (un_none hs hd)
    | some l => exact .inl (un_some hs h hd).2
  · exact .inr (un_odd hs h)
set_option maxHeartbeats 400000 in
theorem specBytesOf (s : ByteArray) (w : World) (hm : s.size ≤ maxLen) :
    Calls Try.prog 15 #[.string s] w fun e w' => e = .returned (.tuple #[.string (unS s), .int .i64 (unC s)]) ∧ Below w.heap.size w w' := by
  unfold maxLen at hm
  by_cases hs : s.size ≤ 65536
  · rcases unC_cases s hs with h | h
    · have H := Lib.hid h; clear h
      have hc : (unC s == 0) = true := by rw [H.out]; rfl
      go_enter Try.func15, Try.ntmps15
      go_wp2_with (go_at_call 29; refine (specUnAny _ _ hs).mono ?_; rintro e w' ⟨rfl, hb⟩)
      go_ret2
      exact ⟨ret_si ⟨rfl, H.out.symm⟩, hb⟩
    · have H := Lib.hid h; clear h
      have hc : (unC s == 0) = false := by rw [H.out.2]; rfl
      go_enter Try.func15, Try.ntmps15
      go_wp2_with (go_at_call 29; refine (specUnAny _ _ hs).mono ?_; rintro e w' ⟨rfl, hb⟩)
      go_ret2
      exact ⟨ret_si ⟨H.out.1.symm, H.out.2.symm⟩, hb⟩
  · have HU := Lib.hid (un_long hs)
    go_enter Try.func15, Try.ntmps15
    go_wp2
    go_ret2
    exact ⟨ret_si ⟨HU.out.1.symm, HU.out.2.symm⟩, Below.refl _ _⟩
set_option maxHeartbeats 1000000 in
theorem implUn (s : ByteArray) (w : World) (hs : s.size ≤ 65536) (hev : s.size % 2 = 0) :
    Calls Try.prog 13 #[.string s] w fun e w' => e = .returned (.tuple #[.string (unS s), .int .i64 (unC s)]) ∧ Below w.heap.size w w' := by
  obtain ⟨i0, hi, hz0, hz1, hz2⟩ := info_parts infoB
  have t1 : (s.size : Int).tmod 2 = 0 := by rw [Int.tmod_eq_emod_of_nonneg (by omega)]; omega
  have t2 : (s.size : Int).tdiv 2 = (s.size : Int) / 2 := Int.tdiv_eq_ediv_of_nonneg (by omega)
  go_enter Try.func13, Try.ntmps13
  go_wp2_with (at_make; refine wpList_make_own _ rfl _ _ 22 rfl w.heap.size 5 i0 (.int .u8 0) 1 Try.underlying22 hi hz0 hz1 .i64 .i64 _ (s.size / 2) rfl rfl (by omega) (by rw [hz2]; omega) (by unfold maxLen; omega) (Nat.le_refl _) ?_; intro w0 hown0 hgrow0)
  have hb0 : Below w.heap.size w w0 := (Below.refl _ _).grown hgrow0 (Nat.le_refl _) (fun _ h => by cases h)
  clear hgrow0
  go_loopw [4, 5, 6, 7] (fun v i _ _ wr => ∃ (j n g cap : Nat) (l : List UInt8), j ≤ s.size ∧ i = .int .i64 j ∧ v = .slice (some ⟨g, 0, none⟩) n cap ∧ wr.ownsRow w.heap.size 5 1 (.slice (some ⟨g, 0, none⟩) n cap) n (BV l) ∧ Below w.heap.size w wr ∧ n ≤ j ∧ Hid (j % 2 = 0) ∧ Hid (decN s (j / 2) = some l)) (fun _ i _ _ _ => s.size - (intOf i).toNat)
  case atStart =>
    exact ⟨0, 0, w.heap.size, s.size / 2, [], Nat.zero_le _, rfl, rfl, hown0, hb0, Nat.le_refl _, Lib.hid rfl, Lib.hid rfl⟩
  case round =>
    obtain ⟨j, n, g, cap, l, hj, rfl, rfl, hown, hnx, hnj, HE, HD⟩ := hrel
    by_cases hlt : j < s.size
    · have hlt2 : j + 1 < s.size := by have := HE.out; omega
      have hlt3 : (j : Int) + 1 < s.size := by omega
      have hp1 : ((j : Int) + 1).toNat = j + 1 := by omega
      obtain ⟨a, ha⟩ : ∃ a, a = digI (gb s j) := ⟨_, rfl⟩
      obtain ⟨b, hb⟩ : ∃ b, b = digI (gb s (j + 1)) := ⟨_, rfl⟩
      have bd1 := digI_bd (gb s j)
      rw [← ha] at bd1
      have bd2 := digI_bd (gb s (j + 1))
      rw [← hb] at bd2
      have HA := Lib.hid ha; have HB := Lib.hid hb; clear ha hb
      obtain ⟨a0, a1⟩ := bd1
      obtain ⟨b0, b1⟩ := bd2
      have hsz := hnx.size
      by_cases ga : 0 ≤ a
      · by_cases gb' : 0 ≤ b
        · have FB := Lib.hid (byte_of HA.out HB.out ga gb')
          have HD' := Lib.hid (decN_good HE.out (good_of HA.out HB.out ga gb') HD.out)
          go_wp2_with fail
          refine (implDigAt hlt HA.out _).mono ?_
          rintro e w' ⟨rfl, rfl⟩
          go_wp2_with fail
          refine (implDigAt hlt2 HB.out _).mono ?_
          rintro e w' ⟨rfl, rfl⟩
          have fb := FB.out
          have fb2 : IntKind.u8.wrap (16 * a + b) = ((byteB s j).toNat : Int) := by rw [← fb, IntKind.wrap_u8]; omega
          have hm1 : n + 1 ≤ maxLen := by unfold maxLen; omega
          have hb1 : (n + 1) * 1 ≤ 140737488355328 := by omega
          go_wp2_with (at_builtin; refine wpList_append_lies _ rfl _ _ _ rfl w.heap.size 5 i0 (.int .u8 0) 1 1 Try.underlying22 hi hz0 hz1 hz2 rfl (by omega) _ n (BV l) rfl (hown.alloc _) ⟨wr.heap.size, 0, none⟩ 1 1 (BV [byteB s j]) rfl rfl (news1' _ _) (BV_one _) (by omega) hm1 hb1 (by simp; omega) (wr.heap.size + 1) (by simp) ?_; intro g' cap' w1 hown1 hgrow hat hlt1)
          rw [BV_app] at hown1
          have hb2 := below_app' hnx hgrow (fun j hj => (hown.lt j hj).1)
          have HE' : Hid ((j + 2) % 2 = 0) := Lib.hid (by have := HE.out; omega)
          clear fb fb2 hown hnx hgrow hat hlt1 hm1 hb1 hsz
          go_wp2
          go_roundw
          case rel => exact ⟨j + 2, n + 1, g', cap', l ++ [byteB s j], by omega, by go_num, rfl, hown1, hb2, by omega, HE', HD'⟩
          case measure => simp [intOf]; omega
        · have HU := Lib.hid (un_none hs (decN_bad HE.out (bad_of HA.out HB.out (by omega)) (by omega)))
          go_wp2_with fail
          refine (implDigAt hlt HA.out _).mono ?_
          rintro e w' ⟨rfl, rfl⟩
          go_wp2_with fail
          refine (implDigAt hlt2 HB.out _).mono ?_
          rintro e w' ⟨rfl, rfl⟩
          go_wp2
          go_ret2
          exact ⟨ret_si ⟨HU.out.1.symm, HU.out.2.symm⟩, hnx⟩
      · have HU := Lib.hid (un_none hs (decN_bad HE.out (bad_of HA.out HB.out (by omega)) (by omega)))
        go_wp2_with fail
        refine (implDigAt hlt HA.out _).mono ?_
        rintro e w' ⟨rfl, rfl⟩
        go_wp2_with fail
        refine (implDigAt hlt2 HB.out _).mono ?_
        rintro e w' ⟨rfl, rfl⟩
        go_wp2
        go_ret2
        exact ⟨ret_si ⟨HU.out.1.symm, HU.out.2.symm⟩, hnx⟩
    · have hconv := str_own hown
      obtain rfl : j = s.size := by omega
      have HU := Lib.hid (un_some hs hev HD.out)
      go_wp2
      go_ret2
      exact ⟨ret_si ⟨HU.out.1.symm, HU.out.2.symm⟩, hnx⟩
set_option maxHeartbeats 400000 in
theorem implUnOdd (s : ByteArray) (w : World) (hs : s.size ≤ 65536) (hev : s.size % 2 ≠ 0) :
    Calls Try.prog 13 #[.string s] w fun e w' => e = .returned (.tuple #[.string (unS s), .int .i64 (unC s)]) ∧ Below w.heap.size w w' := by
  have HU := Lib.hid (un_odd hs hev)
  have t1 : ((s.size : Int) % 2 != 0) = true := bne_iff_ne.mpr (by omega)
  clear hev
  go_enter Try.func13, Try.ntmps13
  go_wp2
  go_ret2
  exact ⟨ret_si ⟨HU.out.1.symm, HU.out.2.symm⟩, Below.refl _ _⟩
set_option maxHeartbeats 400000 in
theorem implBytesOf (s : ByteArray) (w : World) (hm : s.size ≤ maxLen) :
    Calls Try.prog 13 #[.string s] w fun e w' => e = .returned (.tuple #[.string (unS s), .int .i64 (unC s)]) ∧ Below w.heap.size w w' := by
  unfold maxLen at hm
  by_cases hs : s.size ≤ 65536
  · by_cases h : s.size % 2 = 0
    · exact implUn s w hs h
    · exact implUnOdd s w hs h
  · have HU := Lib.hid (un_long hs)
    go_enter Try.func13, Try.ntmps13
    go_wp2
    go_ret2
    exact ⟨ret_si ⟨HU.out.1.symm, HU.out.2.symm⟩, Below.refl _ _⟩
end Go.Proofs.Ytplgeelhkldkcaa
