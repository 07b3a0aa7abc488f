/-
  What impl.firstRows and impl.secondRows do: each returns its table of shapes, changing nothing that was there; no condition.
-/
import Derived.Test.YtjnjlgaemmdkhaaGreatDoorMathShape
import Derived.WalkSpells
import Derived.WalkLawsBesides
import Derived.Great.Walk
import Derived.Laws.Tables
import Derived.Laws.Rows
namespace Go.Proofs.YtjnjlgaemmdkhaaGreatDoor
open Go.RowKit
set_option linter.unusedSimpArgs false
/-- plain operations run one behind the other -/
def stepAll (P : Program) : List Oper → Act → World → Option (Act × World)
  | [], a, w => some (a, w)
  | o :: os, a, w => if o.guard = none then (match (execOp a.eval o).run P w with | .ok (.value v) w' => stepAll P os (a.put o.dst v) w' | _ => none) else none
theorem wpList_steps {P : Program} {ops : Array Oper} {Q : Exit → Act → World → Prop} : ∀ (l rest : List Oper) (a : Act) (w : World) (a' : Act) (w' : World), stepAll P l a w = some (a', w') → wpList P ops Q rest a' w' → wpList P ops Q (l ++ rest) a w
  | [], rest, a, w, a', w', h, k => by
    simp only [stepAll, Option.some.injEq, Prod.mk.injEq] at h
    obtain ⟨rfl, rfl⟩ := h
    exact k
  | o :: os, rest, a, w, a', w', h, k => by
    unfold stepAll at h
    split at h
    · rename_i hg
      split at h
      · rename_i v w1 hr
        exact Go.Great.wpList_runTo hg o.dst rfl v w1 hr (wpList_steps os rest _ _ _ _ h k)
      · cases h
    · cases h
theorem bulk_store {P : Program} {ops : Array Oper} {Q : Exit → Act → World → Prop} {l : List Oper} {a : Act} {w : World} (N : Nat) (ty : TypeId) (x y : Operand) (g : Nat) (cells old : Array Value) (t : TypeId)
    (hst : (l.drop N).map (fun o => (o.op, o.dst, o.guard)) = [(.store ty x y, none, none)])
    (hrun : (stepAll P (l.take N) a w).map (fun r => (r.1.eval x, r.1.eval y, r.2, r.1.defers)) = some (.pointer (some ⟨g, 0, none⟩), .agg cells, w, []))
    (hg : w.heap[g]? = some (.cells old t (0, 0))) (hi : (P.info? ty).map (·.size) = some cells.size) (hold : old.size = cells.size) (h1 : cells.all (·.oneCell') = true)
    (h : ∀ a' : Act, a'.eval x = .pointer (some ⟨g, 0, none⟩) → a'.defers = [] → wpList P ops Q [] (a'.put none undef) (w.setRow g cells)) : wpList P ops Q l a w := by
  obtain ⟨⟨a', w'⟩, hs, he⟩ := Option.map_eq_some_iff.1 hrun
  simp only [Prod.mk.injEq] at he
  obtain ⟨e1, e2, rfl, e4⟩ := he
  rw [← List.take_append_drop N l]
  refine wpList_steps _ _ _ _ _ _ hs ?_
  match hd : l.drop N, hst with
  | [o], hst =>
    simp only [hd, List.map_cons, List.map_nil, List.cons.injEq, Prod.mk.injEq, and_true] at hst
    obtain ⟨o1, o2, o3⟩ := hst
    refine wpList_store_row o3 ty x y o1 g cells e1 e2 t old hg hi hold h1 ?_
    rw [o2]
    exact h a' e1 e4
  | [], hst => simp [hd] at hst
  | _ :: _ :: _, hst => simp [hd] at hst
theorem ret_end {P : Program} {fn : Func} {R : Ending → World → Prop} {a : Act} {w : World} {v : Value} (hr : (results fn a.tmps).run P w = .ok v w) (hd : a.defers = []) (hR : R (.returned v) w) : Code.wp P Code.ret (bodyPost P fn R) (a.put none undef) w := wp_ret (bodyPost_ret hr hd hR)
theorem below_row (w : World) (o : Obj) (cs : Array Value) : Below w.heap.size w ((w.alloc o).setRow w.heap.size cs) :=
  ⟨rfl, rfl, rfl, by simp, fun i hi => by rw [setRow_other _ _ _ _ (by omega)]; exact Below.heap_alloc w o i hi⟩
end Go.Proofs.YtjnjlgaemmdkhaaGreatDoor
