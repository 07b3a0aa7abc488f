/-
  What spec.l03First, spec.l03Second and spec.l03Shape do: the shape of a byte, changing nothing that was there; no condition but those in each head.
-/
import Derived.Test.YtjnjlgaemmdkhaaGreatDoorWalkShape2
namespace Go.Proofs.YtjnjlgaemmdkhaaGreatDoor
open Go.RowKit
theorem shape2_64 : ∀ b, b < 256 → 64 ≤ b → b ≤ 79 → shape2 b = ⟨36, 2, 0, false, 0⟩ := by decide +kernel
theorem shape2_128 : ∀ b, b < 256 → 128 ≤ b → b ≤ 143 → shape2 b = ⟨33, 10, 0, false, 0⟩ := by decide +kernel
theorem shape2_144 : ∀ b, b < 256 → 144 ≤ b → b ≤ 159 → shape2 b = ⟨35, 6, 0, true, 0⟩ := by decide +kernel
theorem shape2_rest (b : Nat) (hb : b < 256) (h : ¬ (64 ≤ b ∧ b ≤ 79) ∧ ¬ (128 ≤ b ∧ b ≤ 143) ∧ ¬ (144 ≤ b ∧ b ≤ 159) ∧ b ≠ 5 ∧ b ≠ 175 ∧ b ≠ 182 ∧ b ≠ 183 ∧ b ≠ 190 ∧ b ≠ 191) : shape2 b = noShp := by
  unfold shape2
  simp only [rows2, lookIn]
  repeat rw [if_neg (by omega)]
theorem shape1_80 : ∀ b, b < 256 → 80 ≤ b → b ≤ 87 → shape1 b = ⟨29, 7, 0, false, 0⟩ := by decide +kernel
theorem shape1_88 : ∀ b, b < 256 → 88 ≤ b → b ≤ 95 → shape1 b = ⟨30, 7, 0, false, 0⟩ := by decide +kernel
theorem shape1_112 : ∀ b, b < 256 → 112 ≤ b → b ≤ 127 → shape1 b = ⟨33, 9, 0, false, 0⟩ := by decide +kernel
theorem shape1_176 : ∀ b, b < 256 → 176 ≤ b → b ≤ 183 → shape1 b = ⟨9, 8, 0, true, 0⟩ := by decide +kernel
theorem shape1_184 : ∀ b, b < 256 → 184 ≤ b → b ≤ 191 → shape1 b = ⟨9, 8, 0, false, 0⟩ := by decide +kernel
theorem shape1_rest (b : Nat) (hb : b < 256) (h : ¬ (80 ≤ b ∧ b ≤ 87) ∧ ¬ (88 ≤ b ∧ b ≤ 95) ∧ ¬ (112 ≤ b ∧ b ≤ 127) ∧ ¬ (176 ≤ b ∧ b ≤ 183) ∧ ¬ (184 ≤ b ∧ b ≤ 191) ∧ b ≠ 99 ∧ b ≠ 104 ∧ b ≠ 106 ∧ b ≠ 128 ∧ b ≠ 129 ∧ b ≠ 131 ∧ b ≠ 132 ∧ b ≠ 133 ∧ b ≠ 134 ∧ b ≠ 135 ∧ b ≠ 136 ∧ b ≠ 137 ∧ b ≠ 138 ∧ b ≠ 139 ∧ b ≠ 141 ∧ b ≠ 143 ∧ b ≠ 144 ∧ b ≠ 152 ∧ b ≠ 153 ∧ b ≠ 164 ∧ b ≠ 168 ∧ b ≠ 169 ∧ b ≠ 170 ∧ b ≠ 192 ∧ b ≠ 193 ∧ b ≠ 195 ∧ b ≠ 198 ∧ b ≠ 199 ∧ b ≠ 205 ∧ b ≠ 208 ∧ b ≠ 209 ∧ b ≠ 210 ∧ b ≠ 211 ∧ b ≠ 232 ∧ b ≠ 233 ∧ b ≠ 235 ∧ b ≠ 244 ∧ b ≠ 246 ∧ b ≠ 247 ∧ b ≠ 254 ∧ b ≠ 255 ∧ ¬ (b < 64 ∧ b % 8 < 6)) : shape1 b = noShp := by
  unfold shape1
  rw [if_neg (by omega)]
  simp only [rows1, lookIn]
  repeat rw [if_neg (by omega)]
end Go.Proofs.YtjnjlgaemmdkhaaGreatDoor
