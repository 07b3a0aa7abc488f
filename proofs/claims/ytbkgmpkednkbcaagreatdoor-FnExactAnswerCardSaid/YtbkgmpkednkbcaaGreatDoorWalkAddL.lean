/-
  What both AddPage answer fits the law's size; no condition but those in each head.
-/
import Derived.Test.YtbkgmpkednkbcaaGreatDoorWalkAddS3
import Derived.Test.YtbkgmpkednkbcaaGreatDoorWalkAddI2
namespace Go.Proofs.YtbkgmpkednkbcaaGreatDoor
open Go.RowKit Go.Sort
theorem AddOut.small {l : List Pg} {base perm : Int} {l' : List Pg} {c : Int} (h : AddOut l base perm l' c) (hs : Small l) : Small l' := by
  rcases h with ⟨_, rfl, _⟩ | ⟨_, _, rfl, _⟩ | ⟨_, _, _, rfl, _⟩ | ⟨_, _, _, _, rfl, _⟩ | ⟨hm, _, _, _, ⟨i, hi, rfl⟩, _⟩
  · exact ⟨by simp, fun k x hk => by simp at hk⟩
  · exact ⟨by simp, fun k x hk => by simp at hk⟩
  · exact hs
  · exact hs
  · have hl := hm.1
    refine ⟨by rw [insL_len hi.1]; omega, fun j y hj => ?_⟩
    rw [insL_at hi.1] at hj
    split at hj
    · exact hs.2 j y hj
    · split at hj
      · cases hj
        have := zeros_size
        simp only [this]; omega
      · exact hs.2 _ y hj
end Go.Proofs.YtbkgmpkednkbcaaGreatDoor
