/-
  The tables of shapes of operations as lists, and what a look into such a list answers; no condition but those in each head.
-/
import Derived.Test.YtjnjlgaemmdkhaaGreatDoorProg
import Derived.WalkKit
import Derived.Lib.Hide
namespace Go.Proofs.YtjnjlgaemmdkhaaGreatDoor
open Go.RowKit
/-- a shape: operation, form, group, byte, from -/
structure Shp where
  o : Int
  f : Int
  g : Int
  y : Bool
  r : Int
  deriving DecidableEq
def shpV (s : Shp) : Value := .agg #[.int .i64 s.o, .int .i64 s.f, .int .i64 s.g, .bool s.y, .int .i64 s.r]
def shpL (s : Shp) : List Value := [.int .i64 s.o, .int .i64 s.f, .int .i64 s.g, .bool s.y, .int .i64 s.r]
def noShp : Shp := ⟨0, 0, 0, false, 0⟩
def rowL (x : Int × Int × Shp) : List Value := [.int .i64 x.1, .int .i64 x.2.1, .int .i64 x.2.2.o, .int .i64 x.2.2.f, .int .i64 x.2.2.g, .bool x.2.2.y, .int .i64 x.2.2.r]
def rowsV (l : List (Int × Int × Shp)) : Array Value := (l.flatMap rowL).toArray
def rows1 : List (Int × Int × Shp) := [(80, 87, ⟨29, 7, 0, false, 0⟩), (88, 95, ⟨30, 7, 0, false, 0⟩), (99, 99, ⟨27, 17, 0, false, 4⟩), (104, 104, ⟨29, 16, 0, false, 0⟩), (106, 106, ⟨29, 15, 0, false, 0⟩), (112, 127, ⟨33, 9, 0, false, 0⟩), (128, 128, ⟨0, 5, 1, true, 0⟩), (129, 129, ⟨0, 5, 1, false, 0⟩), (131, 131, ⟨0, 4, 1, false, 0⟩), (132, 132, ⟨10, 1, 0, true, 0⟩), (133, 133, ⟨10, 1, 0, false, 0⟩), (134, 134, ⟨28, 1, 0, true, 0⟩), (135, 135, ⟨28, 1, 0, false, 0⟩), (136, 136, ⟨9, 1, 0, true, 0⟩), (137, 137, ⟨9, 1, 0, false, 0⟩), (138, 138, ⟨9, 2, 0, true, 0⟩), (139, 139, ⟨9, 2, 0, false, 0⟩), (141, 141, ⟨25, 2, 0, false, 0⟩), (143, 143, ⟨0, 6, 6, false, 0⟩), (144, 144, ⟨37, 14, 0, false, 0⟩), (152, 152, ⟨39, 14, 0, false, 0⟩), (153, 153, ⟨40, 14, 0, false, 0⟩), (164, 164, ⟨42, 14, 0, true, 0⟩), (168, 168, ⟨10, 3, 0, true, 0⟩), (169, 169, ⟨10, 3, 0, false, 0⟩), (170, 170, ⟨41, 14, 0, true, 0⟩), (176, 183, ⟨9, 8, 0, true, 0⟩), (184, 191, ⟨9, 8, 0, false, 0⟩), (192, 192, ⟨0, 11, 2, true, 0⟩), (193, 193, ⟨0, 11, 2, false, 0⟩), (195, 195, ⟨34, 14, 0, false, 0⟩), (198, 198, ⟨0, 5, 7, true, 0⟩), (199, 199, ⟨0, 5, 7, false, 0⟩), (205, 205, ⟨44, 15, 0, false, 0⟩), (208, 208, ⟨0, 12, 2, true, 0⟩), (209, 209, ⟨0, 12, 2, false, 0⟩), (210, 210, ⟨0, 13, 2, true, 0⟩), (211, 211, ⟨0, 13, 2, false, 0⟩), (232, 232, ⟨31, 10, 0, false, 0⟩), (233, 233, ⟨32, 10, 0, false, 0⟩), (235, 235, ⟨32, 9, 0, false, 0⟩), (244, 244, ⟨38, 14, 0, false, 0⟩), (246, 246, ⟨0, 6, 3, true, 0⟩), (247, 247, ⟨0, 6, 3, false, 0⟩), (254, 254, ⟨0, 6, 4, true, 0⟩), (255, 255, ⟨0, 6, 5, false, 0⟩)]
def rows2 : List (Int × Int × Shp) := [(5, 5, ⟨43, 14, 0, false, 0⟩), (64, 79, ⟨36, 2, 0, false, 0⟩), (128, 143, ⟨33, 10, 0, false, 0⟩), (144, 159, ⟨35, 6, 0, true, 0⟩), (175, 175, ⟨17, 2, 0, false, 0⟩), (182, 182, ⟨26, 17, 0, false, 1⟩), (183, 183, ⟨26, 17, 0, false, 2⟩), (190, 190, ⟨27, 17, 0, false, 1⟩), (191, 191, ⟨27, 17, 0, false, 2⟩)]
def arithL : List Shp := [⟨0, 1, 0, true, 0⟩, ⟨0, 1, 0, false, 0⟩, ⟨0, 2, 0, true, 0⟩, ⟨0, 2, 0, false, 0⟩, ⟨0, 3, 0, true, 0⟩, ⟨0, 3, 0, false, 0⟩]
/-- what stands for b in a list of rows -/
def lookIn (l : List (Int × Int × Shp)) (b : Int) : Shp := match l with
  | [] => noShp
  | x :: r => if x.1 ≤ b ∧ b ≤ x.2.1 then x.2.2 else lookIn r b
def arithAt (i : Nat) : Shp := arithL.getD i noShp
/-- the table of one byte -/
def shape1 (b : Nat) : Shp := if b < 64 ∧ b % 8 < 6 then { arithAt (b % 8) with o := 1 + (b / 8 : Nat) } else lookIn rows1 b
/-- the table behind a byte 15 -/
def shape2 (b : Nat) : Shp := lookIn rows2 b
theorem rowL_len (x : Int × Int × Shp) : (rowL x).length = 7 := rfl
theorem rows_len : ∀ l : List (Int × Int × Shp), (l.flatMap rowL).length = l.length * 7
  | [] => rfl
  | x :: r => by rw [List.flatMap_cons, List.length_append, rows_len r, rowL_len, List.length_cons]; omega
theorem rows_at : ∀ (l : List (Int × Int × Shp)) (k : Nat) (x : Int × Int × Shp), l[k]? = some x → ∀ i, i < 7 → (l.flatMap rowL)[k * 7 + i]? = (rowL x)[i]?
  | [], k, x, h, _, _ => by simp at h
  | y :: r, 0, x, h, i, hi => by
    simp at h; subst h
    rw [List.flatMap_cons, Nat.zero_mul, Nat.zero_add, List.getElem?_append_left (by rw [rowL_len]; omega)]
  | y :: r, k + 1, x, h, i, hi => by
    rw [List.flatMap_cons, List.getElem?_append_right (by rw [rowL_len]; omega), rowL_len, show (k + 1) * 7 + i - 7 = k * 7 + i by omega]
    exact rows_at r k x (by simpa using h) i hi
theorem rowsV_at {l : List (Int × Int × Shp)} {k : Nat} {x : Int × Int × Shp} (h : l[k]? = some x) (i : Nat) (hi : i < 7) : (rowsV l)[k * 7 + i]? = (rowL x)[i]? := by
  unfold rowsV; rw [List.getElem?_toArray]; exact rows_at l k x h i hi
theorem rowsV_size (l : List (Int × Int × Shp)) : (rowsV l).size = l.length * 7 := by unfold rowsV; rw [List.size_toArray, rows_len]
theorem look_skip {l : List (Int × Int × Shp)} {b : Int} {k : Nat} {x : Int × Int × Shp} (h : l[k]? = some x) (hn : ¬ (x.1 ≤ b ∧ b ≤ x.2.1)) : lookIn (l.drop k) b = lookIn (l.drop (k + 1)) b := by
  have hk := (List.getElem?_eq_some_iff.1 h).1
  have he := (List.getElem?_eq_some_iff.1 h).2
  rw [List.drop_eq_getElem_cons hk, he, lookIn, if_neg hn]
theorem look_hit {l : List (Int × Int × Shp)} {b : Int} {k : Nat} {x : Int × Int × Shp} (h : l[k]? = some x) (hy : x.1 ≤ b ∧ b ≤ x.2.1) : lookIn (l.drop k) b = x.2.2 := by
  have hk := (List.getElem?_eq_some_iff.1 h).1
  have he := (List.getElem?_eq_some_iff.1 h).2
  rw [List.drop_eq_getElem_cons hk, he, lookIn, if_pos hy]
theorem look_end (l : List (Int × Int × Shp)) (b : Int) : lookIn (l.drop l.length) b = noShp := by rw [List.drop_length]; rfl
end Go.Proofs.YtjnjlgaemmdkhaaGreatDoor
