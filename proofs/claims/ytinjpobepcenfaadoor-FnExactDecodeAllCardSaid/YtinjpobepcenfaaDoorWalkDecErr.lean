/-
  What impl.Decode does where read answers a code; conditions: those in its head.
-/
import Derived.Test.YtinjpobepcenfaaDoorWalkDec
namespace Go.Proofs.YtinjpobepcenfaaDoor
open Go.RowKit Go.Sort
set_option linter.unusedVariables false
theorem Res.drew {W : World} {b : Nat} {cs : Array Value} {c : Int} (h : Res W b cs c) : Res W.drew b cs c := ⟨h.row, h.int⟩
theorem store_ins (u : World) (b : Nat) (c : Int) (h : Res u b zIns c) : (Instr.storeAt 29 (.pointer (some ⟨b, 0, none⟩)) (.agg #[.int .i64 0, .int .i64 0, .int .i64 0, .int .i64 0, .int .i64 0, .int .i64 0, .int .i64 0, .int .i64 0, .int .i64 0, .int .i64 0, .int .i64 0, .int .i64 0, .int .i64 0, .int .i64 0, .int .i64 0, .int .i64 0, .int .i64 0, .int .i64 0, .int .i64 0])).run Tryd.prog u = .ok () (u.setRow b zIns) := by
  simp only [Instr.storeAt, Instr.sureAddr, Sem.run_bind, Sem.run_pure, Result.andThen_ok]
  exact run_storeVar_row u b 29 29 zIns zIns h.row (by kernel_rfl) rfl (ins_one _ _ _ _ _ _ _)
theorem store_insV (u : World) (b : Nat) (c : Int) (h : Res u b zIns c) : (storeVar 29 ⟨b, 0, none⟩ (.agg #[.int .i64 0, .int .i64 0, .int .i64 0, .int .i64 0, .int .i64 0, .int .i64 0, .int .i64 0, .int .i64 0, .int .i64 0, .int .i64 0, .int .i64 0, .int .i64 0, .int .i64 0, .int .i64 0, .int .i64 0, .int .i64 0, .int .i64 0, .int .i64 0, .int .i64 0])).run Tryd.prog u = .ok () (u.setRow b zIns) := run_storeVar_row u b 29 29 zIns zIns h.row (by kernel_rfl) rfl (ins_one _ _ _ _ _ _ _)
theorem store_int1 (u : World) (b : Nat) (d c : Int) (h : Res u b zIns c) : (Instr.storeAt 3 (.pointer (some ⟨b + 1, 0, none⟩)) (.int .i64 d)).run Tryd.prog u = .ok () (u.setCell ⟨b + 1, 0, none⟩ (.int .i64 d)) := by
  have z3 := Tryd.sizeOf3
  have x1 := h.cell; have x2 := h.free
  simp [go_sem, *]
attribute [-go_sem] Instr.storeAt
set_option maxRecDepth 100000 in
set_option maxHeartbeats 8000000 in
theorem decErr (s : ByteArray) (n : Nat) (c : Int) (hc0 : c ≠ 0) (w : World) (hs : s.size ≤ 65536) (hn : n ≤ s.size)
    (C : Hid (Calls Tryd.prog 33 #[.pointer (some ⟨w.heap.size + 2, 0, none⟩)] ((((w.alloc (.cells #[.int .i64 0, .int .i64 0, .int .i64 0, .int .i64 0, .int .i64 0, .int .i64 0, .int .i64 0, .int .i64 0, .int .i64 0, .int .i64 0, .int .i64 0, .int .i64 0, .int .i64 0, .int .i64 0, .int .i64 0, .int .i64 0, .int .i64 0, .int .i64 0, .int .i64 0] 29)).alloc (.cells #[.int .i64 0] 3)).alloc (.cells #[.string ⟨#[]⟩, .int .i64 0, .bool false, .int .i64 0, .int .i64 0, .int .i64 0, .int .i64 0, .int .i64 0, .bool false, .int .i64 0, .int .i64 0, .int .i64 0, .int .i64 0, .int .i64 0, .int .i64 0, .int .i64 0, .int .i64 0, .int .i64 0, .int .i64 0, .int .i64 0, .int .i64 0, .int .i64 0, .int .i64 0, .int .i64 0, .int .i64 0, .int .i64 0, .int .i64 0, .int .i64 0, .int .i64 0, .int .i64 0, .int .i64 0, .int .i64 0] 57)).setRow (w.heap.size + 2) #[.string s, .int .i64 (n : Int), .bool false, .int .i64 0, .int .i64 0, .int .i64 0, .int .i64 0, .int .i64 0, .bool false, .int .i64 0, .int .i64 0, .int .i64 0, .int .i64 0, .int .i64 0, .int .i64 0, .int .i64 0, .int .i64 0, .int .i64 0, .int .i64 0, .int .i64 0, .int .i64 0, .int .i64 0, .int .i64 0, .int .i64 0, .int .i64 0, .int .i64 0, .int .i64 0, .int .i64 0, .int .i64 0, .int .i64 0, .int .i64 0, .int .i64 0]) fun e w' => e = .returned (.int .i64 c) ∧ Ch ((((w.alloc (.cells #[.int .i64 0, .int .i64 0, .int .i64 0, .int .i64 0, .int .i64 0, .int .i64 0, .int .i64 0, .int .i64 0, .int .i64 0, .int .i64 0, .int .i64 0, .int .i64 0, .int .i64 0, .int .i64 0, .int .i64 0, .int .i64 0, .int .i64 0, .int .i64 0, .int .i64 0] 29)).alloc (.cells #[.int .i64 0] 3)).alloc (.cells #[.string ⟨#[]⟩, .int .i64 0, .bool false, .int .i64 0, .int .i64 0, .int .i64 0, .int .i64 0, .int .i64 0, .bool false, .int .i64 0, .int .i64 0, .int .i64 0, .int .i64 0, .int .i64 0, .int .i64 0, .int .i64 0, .int .i64 0, .int .i64 0, .int .i64 0, .int .i64 0, .int .i64 0, .int .i64 0, .int .i64 0, .int .i64 0, .int .i64 0, .int .i64 0, .int .i64 0, .int .i64 0, .int .i64 0, .int .i64 0, .int .i64 0, .int .i64 0] 57)).setRow (w.heap.size + 2) #[.string s, .int .i64 (n : Int), .bool false, .int .i64 0, .int .i64 0, .int .i64 0, .int .i64 0, .int .i64 0, .bool false, .int .i64 0, .int .i64 0, .int .i64 0, .int .i64 0, .int .i64 0, .int .i64 0, .int .i64 0, .int .i64 0, .int .i64 0, .int .i64 0, .int .i64 0, .int .i64 0, .int .i64 0, .int .i64 0, .int .i64 0, .int .i64 0, .int .i64 0, .int .i64 0, .int .i64 0, .int .i64 0, .int .i64 0, .int .i64 0, .int .i64 0]) w' (w.heap.size + 2))) :
    Calls Tryd.prog 12 #[.string s, .int .i64 (n : Int)] w (DecOut zIns c w) := by
  have hmf := mkFuncD
  have hs' : (s.size : Int) ≤ 65536 := by omega
  have hn' : (n : Int) ≤ s.size := by omega
  have d1 : decide ((65536 : Int) < s.size) = false := decide_eq_false (by omega)
  have d2 : decide ((s.size : Int) < n) = false := decide_eq_false (by omega)
  have d3 : (c != 0) = true := bne_iff_ne.mpr hc0
  have R3 := Lib.hid (Res.new3 w (.cells #[.string ⟨#[]⟩, .int .i64 0, .bool false, .int .i64 0, .int .i64 0, .int .i64 0, .int .i64 0, .int .i64 0, .bool false, .int .i64 0, .int .i64 0, .int .i64 0, .int .i64 0, .int .i64 0, .int .i64 0, .int .i64 0, .int .i64 0, .int .i64 0, .int .i64 0, .int .i64 0, .int .i64 0, .int .i64 0, .int .i64 0, .int .i64 0, .int .i64 0, .int .i64 0, .int .i64 0, .int .i64 0, .int .i64 0, .int .i64 0, .int .i64 0, .int .i64 0] 57) #[.string s, .int .i64 (n : Int), .bool false, .int .i64 0, .int .i64 0, .int .i64 0, .int .i64 0, .int .i64 0, .bool false, .int .i64 0, .int .i64 0, .int .i64 0, .int .i64 0, .int .i64 0, .int .i64 0, .int .i64 0, .int .i64 0, .int .i64 0, .int .i64 0, .int .i64 0, .int .i64 0, .int .i64 0, .int .i64 0, .int .i64 0, .int .i64 0, .int .i64 0, .int .i64 0, .int .i64 0, .int .i64 0, .int .i64 0, .int .i64 0, .int .i64 0])
  have B3 := Lib.hid (bel3r w (.cells #[.int .i64 0, .int .i64 0, .int .i64 0, .int .i64 0, .int .i64 0, .int .i64 0, .int .i64 0, .int .i64 0, .int .i64 0, .int .i64 0, .int .i64 0, .int .i64 0, .int .i64 0, .int .i64 0, .int .i64 0, .int .i64 0, .int .i64 0, .int .i64 0, .int .i64 0] 29) (.cells #[.int .i64 0] 3) (.cells #[.string ⟨#[]⟩, .int .i64 0, .bool false, .int .i64 0, .int .i64 0, .int .i64 0, .int .i64 0, .int .i64 0, .bool false, .int .i64 0, .int .i64 0, .int .i64 0, .int .i64 0, .int .i64 0, .int .i64 0, .int .i64 0, .int .i64 0, .int .i64 0, .int .i64 0, .int .i64 0, .int .i64 0, .int .i64 0, .int .i64 0, .int .i64 0, .int .i64 0, .int .i64 0, .int .i64 0, .int .i64 0, .int .i64 0, .int .i64 0, .int .i64 0, .int .i64 0] 57) #[.string s, .int .i64 (n : Int), .bool false, .int .i64 0, .int .i64 0, .int .i64 0, .int .i64 0, .int .i64 0, .bool false, .int .i64 0, .int .i64 0, .int .i64 0, .int .i64 0, .int .i64 0, .int .i64 0, .int .i64 0, .int .i64 0, .int .i64 0, .int .i64 0, .int .i64 0, .int .i64 0, .int .i64 0, .int .i64 0, .int .i64 0, .int .i64 0, .int .i64 0, .int .i64 0, .int .i64 0, .int .i64 0, .int .i64 0, .int .i64 0, .int .i64 0])
  clear hs hn hc0
  go_enter_defers Tryd.func12, Tryd.ntmps12
  have HR := Lib.hid (row3 w)
  go_wp2_with (refine wpList_store_row rfl 57 (.tmp 6) (.tmp 23) rfl (w.heap.size + 2) #[.string s, .int .i64 (n : Int), .bool false, .int .i64 0, .int .i64 0, .int .i64 0, .int .i64 0, .int .i64 0, .bool false, .int .i64 0, .int .i64 0, .int .i64 0, .int .i64 0, .int .i64 0, .int .i64 0, .int .i64 0, .int .i64 0, .int .i64 0, .int .i64 0, .int .i64 0, .int .i64 0, .int .i64 0, .int .i64 0, .int .i64 0, .int .i64 0, .int .i64 0, .int .i64 0, .int .i64 0, .int .i64 0, .int .i64 0, .int .i64 0, .int .i64 0] rfl rfl 57 _ HR.out (by kernel_rfl) rfl (rd_one _ _) ?_)
  refine Calls.mono C.out ?_
  rintro e w4 ⟨rfl, h4⟩
  have R4 := Lib.hid (R3.out.ch h4 (by omega) (by omega))
  have B4 := Lib.hid (below_ch B3.out (by omega : w.heap.size ≤ w.heap.size + 2) h4)
  have e5 := R4.out.cell; have z5 := R4.out.free
  clear h4
  have HS0 := store_int1 w4 w.heap.size c 0 R4.out
  go_wp2_with fail
  clear HS0
  have r5 := R4.out.setInt c
  have b5 := below_setI B4.out (.int .i64 c)
  clear e5 z5
  generalize w4.setCell ⟨w.heap.size + 1, 0, none⟩ (.int .i64 c) = V at *
  have R5 := Lib.hid r5; have B5 := Lib.hid b5
  clear r5 b5
  have e5 := R5.out.cell; have z5 := R5.out.free
  have HSt : ∀ u : World, Res u w.heap.size zIns c → (Instr.storeAt 29 (.pointer (some ⟨w.heap.size, 0, none⟩)) (.agg #[.int .i64 0, .int .i64 0, .int .i64 0, .int .i64 0, .int .i64 0, .int .i64 0, .int .i64 0, .int .i64 0, .int .i64 0, .int .i64 0, .int .i64 0, .int .i64 0, .int .i64 0, .int .i64 0, .int .i64 0, .int .i64 0, .int .i64 0, .int .i64 0, .int .i64 0])).run Tryd.prog u = .ok () (u.setRow w.heap.size zIns) := fun u h => store_ins u _ c h
  have HSi : ∀ (u : World) (d : Int), Res u w.heap.size zIns c → (Instr.storeAt 3 (.pointer (some ⟨w.heap.size + 1, 0, none⟩)) (.int .i64 d)).run Tryd.prog u = .ok () (u.setCell ⟨w.heap.size + 1, 0, none⟩ (.int .i64 d)) := fun u d h => store_int1 u _ d c h
  have HSv : ∀ u : World, Res u w.heap.size zIns c → (storeVar 29 ⟨w.heap.size, 0, none⟩ (.agg #[.int .i64 0, .int .i64 0, .int .i64 0, .int .i64 0, .int .i64 0, .int .i64 0, .int .i64 0, .int .i64 0, .int .i64 0, .int .i64 0, .int .i64 0, .int .i64 0, .int .i64 0, .int .i64 0, .int .i64 0, .int .i64 0, .int .i64 0, .int .i64 0, .int .i64 0])).run Tryd.prog u = .ok () (u.setRow w.heap.size zIns) := fun u h => store_insV u _ c h
  have rr := R5.out
  go_region_held3 (fun w' => Res w' w.heap.size zIns c ∧ w'.cell? ⟨w.heap.size + 1, 0, none⟩ = some (.int .i64 c) ∧ w'.frozen? ⟨w.heap.size + 1, 0, none⟩ = false) (first | (go_split_ands; refine ⟨?_, ?_, ?_⟩ <;> (first | assumption | (exact Res.drew (by assumption)) | (exact (Res.drew (by assumption)).cell) | (exact (Res.drew (by assumption)).free) | (exact Res.setRow (by assumption) rfl) | (exact (Res.setRow (by assumption) rfl).cell) | (exact (Res.setRow (by assumption) rfl).free) | (exact Res.setInt (by assumption) _) | (exact (Res.setInt (by assumption) _).cell) | (exact (Res.setInt (by assumption) _).free) | (exact Res.drew (Res.setRow (by assumption) rfl)) | (exact (Res.drew (Res.setRow (by assumption) rfl)).cell) | (exact (Res.drew (Res.setRow (by assumption) rfl)).free))) | fail) (first | fail)
  all_goals
    clear HSt HSi HSv rr
    go_wp2
    refine leaves_cons (f := 32) (args := #[.pointer (some ⟨w.heap.size, 0, none⟩), .pointer (some ⟨w.heap.size + 1, 0, none⟩)]) (by simp) (by simp [go_sem]) ?_
    refine (catchIdle _ _ _).mono ?_
    rintro e u' w'' ⟨rfl, rfl, rfl⟩
    go_split_ands
    refine ⟨_, Res.out (c := c) (by assumption) rfl _ rfl rfl, rfl, ?_⟩
    repeat (first | exact B5.out | refine Below.drew ?_ | refine below_setI ?_ _ | refine below_setRow ?_)
end Go.Proofs.YtinjpobepcenfaaDoor
