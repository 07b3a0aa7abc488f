/-
  When a head is as it must be: just if it is what the two numbers that it tells would be written as; no condition but those in each head.
-/
import Derived.Test.YtcchcinnjahghaaDoorWalkRs
import Derived.Test.YtcchcinnjahghaaDoorMathSame
namespace Go.Proofs.YtcchcinnjahghaaDoor
open Go.RowKit
set_option linter.unusedVariables false
set_option linter.unusedSimpArgs false
theorem ex_app (t : ByteArray) (a b c : Nat) (h1 : a ≤ b) (h2 : b ≤ c) (h3 : c ≤ t.size) : t.extract a b ++ t.extract b c = t.extract a c := by
  rw [ByteArray.extract_append_extract]
  congr 1 <;> omega
theorem ex_size (t : ByteArray) (a b : Nat) (h1 : a ≤ b) (h2 : b ≤ t.size) : (t.extract a b).size = b - a := by
  rw [ByteArray.size_extract]; omega
/-- bytes that are read as a number and written again -/
theorem lit_tk (t : ByteArray) (a n : Nat) (h : a + n ≤ t.size) (hn : n ≤ 8) : litS (tkN t a n) n = t.extract a (a + n) := by
  have hX : (IntKind.u64.wrap (tkN t a n)).toNat = takeN t a n := by
    have h1 := takeN_lt t a n
    have h2 := lt64 h1 hn
    have h3 := wrapN (tkN t a n)
    unfold tkN wrap64 at h3 ⊢
    omega
  apply ByteArray.ext
  unfold litS
  rw [hX]
  apply Array.ext
  · show (litB _ n).toArray.size = (t.extract a (a + n)).size
    rw [ex_size t a (a + n) (by omega) h]
    simp [litB]
  · intro k h1 h2
    have hk : k < n := by simpa [litB] using h1
    have e := takeN_byte t a n k hk
    have hat : a + k < t.size := by omega
    apply UInt8.toNat_inj.1
    have l : ((litB (takeN t a n) n).toArray[k]'h1) = byteL (takeN t a n) k := by simp [litB]
    rw [l, byteL_nat, e, ← nb_at t (a + k) hat]
    congr 1
    show t[a + k] = (t.extract a (a + n)).data[k]
    simp [ByteArray.getElem_eq_getElem_data]
/-- what of a head is the same in each -/
def magicB (t : ByteArray) : Bool := decide (t.extract 0 24 = (headT 0 0).extract 0 24 ∧ t.extract 32 56 = (headT 0 0).extract 32 56 ∧ t.extract 58 64 = (headT 0 0).extract 58 64)
theorem ex_left (a b : ByteArray) (n : Nat) (h : n = a.size) : (a ++ b).extract 0 n = a := by
  subst h
  apply ByteArray.ext
  simp
theorem ex_all (s : ByteArray) (n : Nat) (h : s.size = n) : s.extract 0 n = s := by
  subst h
  have := ex_left s ⟨#[]⟩ s.size rfl
  rwa [app_nil] at this
theorem headT_parts (n m : Int) : ∃ P Q R : ByteArray, P.size = 24 ∧ Q.size = 24 ∧ R.size = 6 ∧ ∀ n m, headT n m = P ++ (litS n 8 ++ (Q ++ (litS m 2 ++ R))) := by
  refine ⟨((((⟨#[127, 69, 76, 70, 2, 1, 1, 0]⟩ : ByteArray) ++ z8) ++ litS 2 2) ++ litS 62 2) ++ litS 1 4, (((litS 64 8 ++ litS 0 8) ++ litS 0 4) ++ litS 64 2) ++ litS 56 2, z6, ?_, ?_, rfl, fun n m => ?_⟩
  · simp only [ByteArray.size_append, litS_size]; rfl
  · simp only [ByteArray.size_append, litS_size]
  · unfold headT; simp only [ByteArray.append_assoc]
theorem magic_iff (t : ByteArray) (h : 64 ≤ t.size) : magicB t = true ↔ t.extract 0 64 = headT (tkN t 24 8) (tkN t 56 2) := by
  obtain ⟨P, Q, R, hP, hQ, hR, hH⟩ := headT_parts 0 0
  have split : ∀ s : ByteArray, 64 ≤ s.size → s.extract 0 64 = s.extract 0 24 ++ (s.extract 24 32 ++ (s.extract 32 56 ++ (s.extract 56 58 ++ s.extract 58 64))) := fun s hs => by
    rw [ex_app s 56 58 64 (by omega) (by omega) hs, ex_app s 32 56 64 (by omega) (by omega) hs, ex_app s 24 32 64 (by omega) (by omega) hs, ex_app s 0 24 64 (by omega) (by omega) hs]
  have l1 := lit_tk t 24 8 (by omega) (by decide)
  have l2 := lit_tk t 56 2 (by omega) (by decide)
  have parts : (headT 0 0).extract 0 24 = P ∧ (headT 0 0).extract 32 56 = Q ∧ (headT 0 0).extract 58 64 = R := by
    have hz : (headT 0 0).size = 64 := headT_size 0 0
    have e : (headT 0 0).extract 0 64 = headT 0 0 := ex_all _ _ hz
    have e2 := (split (headT 0 0) (by omega)).symm.trans (e.trans (hH 0 0))
    obtain ⟨a1, a2⟩ := bapp e2 (by rw [ex_size _ _ _ (by decide) (by omega), hP])
    obtain ⟨a3, a4⟩ := bapp a2 (by rw [ex_size _ _ _ (by decide) (by omega), litS_size])
    obtain ⟨a5, a6⟩ := bapp a4 (by rw [ex_size _ _ _ (by decide) (by omega), hQ])
    obtain ⟨a7, a8⟩ := bapp a6 (by rw [ex_size _ _ _ (by decide) (by omega), litS_size])
    exact ⟨a1, a5, a8⟩
  unfold magicB
  rw [decide_eq_true_iff, parts.1, parts.2.1, parts.2.2, split t h, hH, l1, l2]
  refine ⟨fun ⟨e1, e2, e3⟩ => by rw [e1, e2, e3], fun e => ?_⟩
  obtain ⟨a1, a2⟩ := bapp e (by rw [ex_size _ _ _ (by decide) (by omega), hP])
  obtain ⟨a3, a4⟩ := bapp a2 rfl
  obtain ⟨a5, a6⟩ := bapp a4 (by rw [ex_size _ _ _ (by decide) (by omega), hQ])
  obtain ⟨a7, a8⟩ := bapp a6 rfl
  exact ⟨a1, a5, a8⟩
end Go.Proofs.YtcchcinnjahghaaDoor
