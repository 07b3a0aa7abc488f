/-
  Two processors compared as structs, two boxes compared, and what spec.SameBox and impl.SameBox answer; conditions: those in each head.
-/
import Derived.Test.YtcnmklgcifdmoaaWalkBoxO2
import Derived.Test.YtcnmklgcifdmoaaWalkSame
import Derived.Laws.StructEq
namespace Go.Proofs.Ytcnmklgcifdmoaa
open Go.RowKit Go.Sort
set_option linter.unusedVariables false
set_option linter.unusedSimpArgs false
theorem load_rowB {P : Program} {ops : Array Oper} {rest : List Oper} {o : Oper} {a : Act} {w : World} {Q : Exit → Act → World → Prop} (hw : Region.wanted o (yielded ops a.tmps) = true) (ty : TypeId) (x : Operand) (ho : o.op = .load ty x)
    (g : Nat) (hx : a.eval x = .pointer (some ⟨g, 0, none⟩)) (t : TypeId) (cs : Array Value) (fr : Nat × Nat) (d : TypeDesc) (hg : w.heap[g]? = some (.cells cs t fr))
    (hu : P.underlying ty = some d) (hd : (match d with | .struct _ | .array _ _ => true | _ => false) = true) (hi : (P.info? ty).map (·.size) = some cs.size)
    (h : wpList P ops Q rest (a.put o.dst (.agg cs)) w) : wpList P ops Q (o :: rest) a w :=
  wpList_step fun K hK => by rw [if_pos hw]; exact wp_load_row ty x ho g hx t cs fr d hg hu hd hi (hK _ _ h)
def regEq (f g : Nat → Int) : Bool := (f 0 == g 0 && (f 1 == g 1 && (f 2 == g 2 && (f 3 == g 3 && (f 4 == g 4 && (f 5 == g 5 && (f 6 == g 6 && (f 7 == g 7 && (f 8 == g 8 && (f 9 == g 9 && (f 10 == g 10 && (f 11 == g 11 && (f 12 == g 12 && (f 13 == g 13 && (f 14 == g 14 && (f 15 == g 15 && true))))))))))))))))
theorem ite_step {w : World} {a b : Int} {A : Result Bool} {R : Bool} (h : A = .ok R w) : (if a = b then A else .ok false w) = .ok (a == b && R) w := by
  split
  · next e => rw [h, beq_iff_eq.mpr e]; rfl
  · next e => rw [beq_eq_false_iff_ne.mpr e]; rfl
theorem ite_stepL {w : World} {a b : Int} : (if a = b then Result.ok true w else .ok false w) = .ok (a == b && true) w := ite_step rfl
set_option maxHeartbeats 2000000 in
set_option maxRecDepth 100000 in
theorem eqArr16D (f g : Nat → Int) (d : Nat) (w : World) : (Op.equalIn (d + 1 + 1) 31 (.agg (regA f)) (.agg (regA g))).run Try.prog w = .ok (regEq f g) w := by
  have u3 := Try.underlying3
  have a3 := Try.isAgg3
  have z3 := Try.sizeOf3
  rw [Op.equalIn]
  simp only [Sem.run_bind, run_underlying Try.underlying31, Result.andThen_ok]
  simp only [regA]
  simp only [Std.Legacy.Range.forIn_eq_forIn_range', Std.Legacy.Range.size, Nat.sub_zero, Nat.add_sub_cancel, Nat.div_one, List.range'_succ, List.range'_zero, List.forIn_cons, List.forIn_nil]
  go_simp
  exact ite_step (ite_step (ite_step (ite_step (ite_step (ite_step (ite_step (ite_step (ite_step (ite_step (ite_step (ite_step (ite_step (ite_step (ite_step (ite_stepL)))))))))))))))
def cpEq (c d : Cp) : Bool := regEq c.rs d.rs && (c.ip == d.ip && (c.fl == d.fl && true))
set_option maxHeartbeats 2000000 in
set_option maxRecDepth 100000 in
theorem eqlCpu (c d : Cp) (w : World) : (binOp .eql 33 (.agg (cpV c)) (.agg (cpV d))).run Try.prog w = .ok (.bool (cpEq c d)) w := by
  have u3 := Try.underlying3
  have a3 := Try.isAgg3
  have z3 := Try.sizeOf3
  have hS : Try.prog.underlying 33 = some (.struct (Try.prog.fieldsOf 33)) := by kernel_rfl
  have hp : Try.prog.stoodInHeld 33 = false := by kernel_rfl
  have hA : ∀ w, (Op.equalIn 9999 31 (.agg ((cpV c).extract 0 16)) (.agg ((cpV d).extract 0 16))).run Try.prog w = .ok (regEq c.rs d.rs) w := fun w => eqArr16D c.rs d.rs 9997 w
  rw [run_eql_struct, show (10000 : Nat) = 9999 + 1 from rfl, run_equalIn_agg w 9999 33 _ _ hS hp]
  simp only [Program.fieldsOf, Try.underlying33]
  have h16 : (cpV c)[16]? = some (.int .i64 c.ip) := rfl
  have h17 : (cpV c)[17]? = some (.int .i64 c.fl) := rfl
  have g16 : (cpV d)[16]? = some (.int .i64 d.ip) := rfl
  have g17 : (cpV d)[17]? = some (.int .i64 d.fl) := rfl
  unfold cpEq
  generalize regEq c.rs d.rs = R at *
  generalize cpV c = V at *
  generalize cpV d = U at *
  go_simp
  cases R <;> by_cases h1 : c.ip = d.ip <;> by_cases h2 : c.fl = d.fl <;> simp_all
theorem byt_eqB (a b : ByteArray) : (a.toList = b.toList) ↔ a = b := by
  refine ⟨fun h => ?_, fun h => by rw [h]⟩
  rw [ByteArray.toList_eq, ByteArray.toList_eq] at h
  cases a; cases b
  congr 1
  exact Array.toList_inj.mp h
theorem cpEq_fl {c d : Cp} (h : cpEq c d = true) : c.fl = d.fl := by
  unfold cpEq at h
  simp only [Bool.and_eq_true, beq_iff_eq] at h
  exact h.2.2.1

/-- all but the pages are the same -/
structure BoEq (a b : Bo) : Prop where
  c : cpEq a.c b.c = true
  hp : a.hp = b.hp
  bk : a.bk = b.bk
  inp : a.inp.toList = b.inp.toList
  at_ : a.at_ = b.at_
  out_ : a.out_.toList = b.out_.toList
  ck : a.ck = b.ck
  sd : a.sd = b.sd
  st : a.st = b.st
  co : a.co = b.co
  ft : a.ft = b.ft
  wh : a.wh = b.wh
theorem BxOk.same {a b : Bo} {l : List Pg} (h : BoEq a b) (ha : BxOk a l) : BxOk b l := by
  have ei := (byt_eqB _ _).1 h.inp
  have eo := (byt_eqB _ _).1 h.out_
  obtain ⟨h1, h2, h3, h4, h5, h6, h7, h8, h9, h10⟩ := ha
  rw [cpEq_fl h.c] at h1
  rw [h.hp] at h3 h4
  rw [h.bk] at h4
  rw [ei] at h5 h6
  rw [h.at_] at h6
  rw [eo] at h7
  rw [h.ck] at h8
  rw [h.sd] at h9
  unfold StOk at h10
  rw [h.st, h.co, h.ft, h.wh] at h10
  exact ⟨h1, h2, h3, h4, h5, h6, h7, h8, h9, h10⟩
end Go.Proofs.Ytcnmklgcifdmoaa
