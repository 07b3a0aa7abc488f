/-
  What spec.l10Text answers: an image's text, in memory of its own; conditions: those in each head.
-/
import Derived.Test.YtcchcinnjahghaaDoorWalkHd
import Derived.Test.YtcchcinnjahghaaDoorWalkImJ
import Derived.Deep.QuietTactic
namespace Go.Proofs.YtcchcinnjahghaaDoor
open Go.RowKit
set_option linter.unusedVariables false
set_option linter.unusedSimpArgs false
/-- the head of a segment whose bytes begin at 'at' -/
def segT (at_ : Int) (x : Sg) : ByteArray := ((((((litS 1 4 ++ litS x.f 4) ++ litS at_ 8) ++ litS x.v 8) ++ litS x.v 8) ++ litS (x.d.size : Int) 8) ++ litS x.m 8) ++ litS 256 8
theorem segT_size (a : Int) (x : Sg) : (segT a x).size = 56 := by simp only [segT, ByteArray.size_append, litS_size]
def segsT : List Sg → Int → ByteArray
  | [], _ => ⟨#[]⟩
  | x :: l, a => segT a x ++ segsT l (a + x.d.size)
/-- how many bytes the segments have -/
def dlen : List Sg → Int
  | [] => 0
  | x :: l => x.d.size + dlen l
def dataT : List Sg → ByteArray
  | [] => ⟨#[]⟩
  | x :: l => x.d ++ dataT l
theorem nil_app (b : ByteArray) : (⟨#[]⟩ : ByteArray) ++ b = b := by apply ByteArray.ext; simp
theorem app_nil (b : ByteArray) : b ++ (⟨#[]⟩ : ByteArray) = b := by apply ByteArray.ext; simp
theorem dlen_snoc (l : List Sg) (x : Sg) : dlen (l ++ [x]) = dlen l + x.d.size := by
  induction l with
  | nil => simp [dlen]
  | cons y l ih => simp only [List.cons_append, dlen, ih]; omega
theorem segsT_snoc (l : List Sg) (x : Sg) (a : Int) : segsT (l ++ [x]) a = segsT l a ++ segT (a + dlen l) x := by
  induction l generalizing a with
  | nil => simp only [List.nil_append, segsT, dlen, nil_app, app_nil, Int.add_zero]
  | cons y l ih => simp only [List.cons_append, segsT, dlen, ih, ByteArray.append_assoc]; rw [show a + y.d.size + dlen l = a + (y.d.size + dlen l) by omega]
theorem dataT_snoc (l : List Sg) (x : Sg) : dataT (l ++ [x]) = dataT l ++ x.d := by
  induction l with
  | nil => simp only [List.nil_append, dataT, nil_app, app_nil]
  | cons y l ih => simp only [List.cons_append, dataT, ih, ByteArray.append_assoc]
theorem segsT_size (l : List Sg) (a : Int) : (segsT l a).size = 56 * l.length := by
  induction l generalizing a with
  | nil => rfl
  | cons y l ih => simp only [segsT, ByteArray.size_append, segT_size, ih, List.length_cons]; omega
theorem dataT_size (l : List Sg) : ((dataT l).size : Int) = dlen l := by
  induction l with
  | nil => rfl
  | cons y l ih => simp only [dataT, ByteArray.size_append, dlen]; omega
/-- an image's text -/
def textT (n : Int) (l : List Sg) : ByteArray := (headT n l.length ++ segsT l (64 + 56 * l.length)) ++ dataT l
theorem dlen_hi {l : List Sg} (h : SmallS l) (k : Nat) (hk : k ≤ l.length) : 0 ≤ dlen (l.take k) ∧ dlen (l.take k) ≤ 1048576 * k := by
  induction k with
  | zero => simp [dlen]
  | succ k ih =>
    have hx : l[k]? = some (l[k]'(by omega)) := List.getElem?_eq_getElem (by omega)
    have i := ih (by omega)
    have s := h.2 k _ hx
    rw [take_snoc hx, dlen_snoc]
    omega
/-- a world of the class that the region of a segment's head keeps to -/
structure CS (W : World) (g : Nat) (x : Sg) where
  u : World
  b : Below W.heap.size W u
  s : SgAt u g x
theorem CS.calls {P : Program} {f : FuncId} {args : Array Value} {v : Value} {W : World} {g : Nat} {x : Sg} (p : CS W g x) (h : Calls P f args p.u fun e w' => e = .returned v ∧ Below p.u.heap.size p.u w') : Calls P f args p.u fun e w'' => e = .returned v ∧ ∃ q : CS W g x, w'' = q.u :=
  h.mono fun e w' ⟨he, hb⟩ => ⟨he, ⟨w', p.b.trans (hb.mono p.b.size), p.s.next hb⟩, rfl⟩
theorem lit4 (v : Int) (w : World) : Calls Tryd.prog 87 #[.int .i64 v, .int .i64 4] w fun e w' => e = .returned (.string (litS v 4)) ∧ Below w.heap.size w w' := litC v 4 w (by decide)
theorem lit8 (v : Int) (w : World) : Calls Tryd.prog 87 #[.int .i64 v, .int .i64 8] w fun e w' => e = .returned (.string (litS v 8)) ∧ Below w.heap.size w w' := litC v 8 w (by decide)
theorem wp_region_quietC {P : Program} {C : World → Prop} {id : Nat} {Q : Exit → Act → World → Prop} {a : Act} {w : World} {l : List Oper} (hm : P.follows .mixedOrders = true) (hB : Region.lexB .any l.toArray = true) (hC : C { w with drawn := w.drawn + 1 })
    (h : wpQuiet P l.toArray C (fun a' => ∀ w', C w' → Q .normal a' w') l a) : (Code.region id l.toArray true).wp P Q a w :=
  wp_region_quiet hm hB hC (by simpa using h)
end Go.Proofs.YtcchcinnjahghaaDoor
