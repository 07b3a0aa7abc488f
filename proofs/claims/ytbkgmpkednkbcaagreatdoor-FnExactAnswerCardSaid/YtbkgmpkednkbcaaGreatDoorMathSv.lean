/-
  What the services make of a box and of its pages, and what they answer, as relations that tell it once; no condition but those in each head.
-/
import Derived.Test.YtbkgmpkednkbcaaGreatDoorWalkSv1
import Derived.Test.YtbkgmpkednkbcaaGreatDoorWalkPutB
import Derived.Test.YtbkgmpkednkbcaaGreatDoorWalkGet
namespace Go.Proofs.YtbkgmpkednkbcaaGreatDoor
open Go.RowKit Go.Sort
set_option linter.unusedVariables false
theorem SpYes.bytes {l : List Pg} (hm : MemOk l) {o n perm : Int} (h : SpYes l o n perm) : ∀ i : Nat, (i : Int) < n → ∃ v, ByteAt l 0 (16384 + o + i) v := by
  intro i hi
  obtain ⟨k, x, hh, _⟩ := h.2 i (by omega)
  exact has_byte hm hh (allow0 x.p)
theorem bytes_ft {l : List Pg} (hm : MemOk l) {a : Int} {n : Nat} (h : ∀ i : Nat, i < n → ∃ v, ByteAt l 0 (a + i) v) {c : Int} (hf : FtOut l a n 0 c) : c = 0 := by
  rcases hf with ⟨rfl, _⟩ | ⟨i, hi, _, hc⟩
  · rfl
  · obtain ⟨v, hv⟩ := h i hi
    exact (byte_code hm hv hc).elim
theorem put_lay {l l' : List Pg} (hm : MemOk l) {a c : Int} {t : ByteArray} (ht : t.size ≤ 8192) (h : ∀ i : Nat, i < t.size → ∃ v, ByteAt l 0 (a + i) v) (hp : PutOut l a t l' c) : LayR 0 l a t l' 0 := by
  rcases hp with ⟨h1, _⟩ | ⟨_, h1, _⟩ | ⟨_, _, h1, _⟩ | ⟨_, _, c', hf, h3⟩
  · omega
  · exact absurd hm h1
  · omega
  · have := bytes_ft hm h hf
    subst this
    rcases h3 with ⟨h4, _⟩ | ⟨_, h5, _⟩
    · exact absurd rfl h4
    · exact h5
/-- as many bytes as are read, and these -/
def rdK (b : Bo) : Int := min (qN b) ((b.inp.size : Int) - b.at_)
def rdT (b : Bo) : ByteArray := b.inp.extract b.at_.toNat (b.at_ + rdK b).toNat
def SvRd (b : Bo) (l : List Pg) (b' : Bo) (l' : List Pg) (v : Int) : Prop :=
  (¬ SpYes l (pN b) (qN b) 2 ∧ b' = b ∧ l' = l ∧ v = -14) ∨ (SpYes l (pN b) (qN b) 2 ∧ LayR 0 l (16384 + pN b) (rdT b) l' 0 ∧ b' = { b with at_ := b.at_ + rdK b } ∧ v = rdK b)
def SvWr (b : Bo) (l : List Pg) (b' : Bo) (l' : List Pg) (v : Int) : Prop :=
  (¬ SpYes l (pN b) (qN b) 1 ∧ b' = b ∧ l' = l ∧ v = -14) ∨ (SpYes l (pN b) (qN b) 1 ∧ 512 - (b.out_.size : Int) < qN b ∧ b' = b ∧ l' = l ∧ v = -28) ∨
  (SpYes l (pN b) (qN b) 1 ∧ qN b ≤ 512 - (b.out_.size : Int) ∧ (∃ T : List UInt8, TkOut l (16384 + pN b) (qN b).toNat 0 T 0 ∧ b' = { b with out_ := b.out_ ++ ⟨T.toArray⟩ }) ∧ l' = l ∧ v = qN b)
theorem SvRd.one {b b1 b2 : Bo} {l l1 l2 : List Pg} {v1 v2 : Int} (hm : MemOk l) (h : SvRd b l b1 l1 v1) (h' : SvRd b l b2 l2 v2) : b1 = b2 ∧ l1 = l2 ∧ v1 = v2 := by
  rcases h with ⟨h1, rfl, rfl, rfl⟩ | ⟨h1, h2, rfl, rfl⟩ <;> rcases h' with ⟨g1, rfl, rfl, rfl⟩ | ⟨g1, g2, rfl, rfl⟩
  · exact ⟨rfl, rfl, rfl⟩
  · exact absurd g1 h1
  · exact absurd h1 g1
  · exact ⟨rfl, LayR.one h2 hm g2, rfl⟩
theorem SvWr.one {b b1 b2 : Bo} {l l1 l2 : List Pg} {v1 v2 : Int} (hm : MemOk l) (h : SvWr b l b1 l1 v1) (h' : SvWr b l b2 l2 v2) : b1 = b2 ∧ l1 = l2 ∧ v1 = v2 := by
  rcases h with ⟨h1, rfl, rfl, rfl⟩ | ⟨h1, h2, rfl, rfl, rfl⟩ | ⟨h1, h2, ⟨T, h3, rfl⟩, rfl, rfl⟩ <;> rcases h' with ⟨g1, rfl, rfl, rfl⟩ | ⟨g1, g2, rfl, rfl, rfl⟩ | ⟨g1, g2, ⟨T', g3, rfl⟩, rfl, rfl⟩ <;> first | exact ⟨rfl, rfl, rfl⟩ | exact absurd g1 h1 | exact absurd h1 g1 | omega | (obtain ⟨rfl, _⟩ := TkOut.one hm h3 g3; exact ⟨rfl, rfl, rfl⟩)
theorem lay_shape {l l' : List Pg} (hm : MemOk l) {a : Int} {t : ByteArray} (h : LayR 0 l a t l' 0) : MemOk l' ∧ l'.length = l.length := ⟨(h.shape hm).ok hm, (h.shape hm).1.symm⟩
end Go.Proofs.YtbkgmpkednkbcaaGreatDoor
