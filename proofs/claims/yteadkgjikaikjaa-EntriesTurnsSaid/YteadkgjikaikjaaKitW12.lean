/- Laws of a walk for variables of many cells, taken whole: what an allocation lays, what a store and a load of all of it do. Conditions: those that each theorem names. -/
import Derived.Test.YteadkgjikaikjaaKitLg
import Derived.Laws.Tables
namespace Go.Proofs.Yteadkgjikaikjaa.kit
open Go Go.RowKit Go.Proofs.Yteadkgjikaikjaa.nums
set_option linter.unusedVariables false
/-- What is left by a store into block g. -/
structure Put (w w' : World) (g : Nat) : Prop where
  other : ∀ q, q ≠ g → w'.heap[q]? = w.heap[q]?
  below : ∀ B w0, Below B w0 w → B ≤ g → Below B w0 w'
  size : w'.heap.size = w.heap.size
theorem Blk.put {w w' : World} {g q : Nat} {E : TypeId} {cs : List Value} (h : Blk E w q cs) (hp : Put w w' g) (hq : q ≠ g) : Blk E w' q cs := (hp.other q hq).trans h
theorem put_setRow {w : World} {g : Nat} {old : List Value} {E : TypeId} (hK : Blk E w g old) (cells : Array Value) : Blk E (w.setRow g cells) g cells.toList ∧ Put w (w.setRow g cells) g := by
  refine ⟨?_, ⟨fun q hq => setRow_other w g q cells hq, fun B w0 hb hB => below_setRow hb hB cells, by simp [World.setRow]⟩⟩
  have := setRow_heap w g old.toArray cells E (0, 0) hK
  unfold Blk
  rw [this]
section
variable {P : Program} {w : World} {ops : Array Oper} {rest : List Oper} {o : Oper} {a : Act} {Q : Exit → Act → World → Prop}
/-- A store of a whole variable. -/
theorem wpList_st (hgd : o.guard = none) (T : TypeId) (p v : Operand) (ho : o.op = .store T p v) (g : Nat) (cells : Array Value) (old : List Value) (E : TypeId) (hp : a.eval p = .pointer (some ⟨g, 0, none⟩)) (hv : a.eval v = .agg cells) (hK : Blk E w g old)
    (hi : (P.info? T).map (·.size) = some cells.size) (hl : old.length = cells.size) (h1 : cells.toList.all (·.oneCell') = true)
    (h : ∀ w', Blk E w' g cells.toList → Put w w' g → wpList P ops Q rest (a.put o.dst undef) w') : wpList P ops Q (o :: rest) a w := by
  refine wpList_plain hgd fun K hK' => ?_
  have hrun := run_storeVar_row (P := P) w g E T old.toArray cells hK hi (by simpa using hl) (Array.all_eq_true_iff_forall_mem.2 (fun u hu => List.all_eq_true.1 h1 u (by simpa using hu)))
  obtain ⟨k1, k2⟩ := put_setRow hK cells
  unfold Oper.wp execOp
  simp only [ho, hp, hv, Instr.storeAt, Instr.sureAddr, Sem.run_bind, Sem.run_pure, Result.andThen_ok, hrun]
  exact hK' _ _ (h _ k1 k2)
/-- An allocation of a variable. -/
theorem wpList_al (hgd : o.guard = none) (T : TypeId) (ho : o.op = .alloc T) (z : Value) (hz : (P.info? T).map (·.zero) = some (some z)) (cells : List Value) (hc : z.cells.toList = cells)
    (h : ∀ w', Blk T w' w.heap.size cells → Below w.heap.size w w' → Hid (w'.heap.size = w.heap.size + 1) → wpList P ops Q rest (a.put o.dst (.pointer (some ⟨w.heap.size, 0, none⟩))) w') : wpList P ops Q (o :: rest) a w := by
  subst hc
  refine wpList_plain hgd fun K hK' => ?_
  cases hq : P.info? T with
  | none => simp [hq] at hz
  | some i =>
    have hz' : i.zero = some z := by simpa [hq] using hz
    unfold Oper.wp execOp
    simp [ho, Instr.alloc, zeroValue, typeInfo, hq, hz', newVar, newRow, Sem.run_bind, Sem.run_pure]
    refine hK' _ _ (h _ (heap_alloc_new w _) ((Below.refl _ _).alloc (Nat.le_refl _) _) (by show (w.heap.push _).size = _; simp))
/-- A load of a whole variable. -/
theorem wpList_ld (hgd : o.guard = none) (T : TypeId) (p : Operand) (ho : o.op = .load T p) (g : Nat) (cells : List Value) (E : TypeId) (hp : a.eval p = .pointer (some ⟨g, 0, none⟩)) (hK : Blk E w g cells)
    (ha : (isAgg T).run P w = .ok true w) (hs : (sizeOf T).run P w = .ok cells.length w) (h : wpList P ops Q rest (a.put o.dst (.agg cells.toArray)) w) : wpList P ops Q (o :: rest) a w := by
  refine wpList_plain hgd fun K hK' => ?_
  have hl := run_loadCells_list (P := P) w ⟨g, 0, none⟩ cells (fun j v hv => by rw [Addr.add_lit, Nat.zero_add, hK.cell]; exact hv)
  unfold Oper.wp execOp
  simp only [ho, hp, Instr.loadAt, Instr.sureAddr, loadVar, Sem.run_bind, Sem.run_pure, Result.andThen_ok, ha, hs, hl, if_true]
  exact hK' _ _ h
/-- A store of an element of a row. -/
theorem wpList_st_at (hgd : o.guard = none) (T : TypeId) (p v : Operand) (ho : o.op = .store T p v) (g off : Nat) (cells cur : Array Value) (E : TypeId) (hp : a.eval p = .pointer (some ⟨g, off, none⟩)) (hv : a.eval v = .agg cells) (hg : w.heap[g]? = some (.cells cur E (0, 0)))
    (hi : (P.info? T).map (·.size) = some cells.size) (hfit : off + cells.size ≤ cur.size) (h1 : cells.toList.all (·.oneCell') = true)
    (h : ∀ w' cur', w'.heap[g]? = some (.cells cur' E (0, 0)) → cur'.size = cur.size → Put w w' g → wpList P ops Q rest (a.put o.dst undef) w') : wpList P ops Q (o :: rest) a w := by
  refine wpList_plain hgd fun K hK' => ?_
  have hst := run_storeCells_at P g off E cells.toList 0 cur w hg (by simpa using hfit) (fun u hu => List.all_eq_true.1 h1 u hu)
  simp only [Nat.add_zero] at hst
  have hput := setRow_heap w g cur (cur.toList.take off ++ cells.toList ++ cur.toList.drop (off + cells.toList.length)).toArray E (0, 0) hg
  cases hq : P.info? T with
  | none => simp [hq] at hi
  | some i =>
    have hs : cells.size = i.size := by simp [hq] at hi; omega
    unfold Oper.wp execOp
    simp only [ho, hp, hv, Instr.storeAt, Instr.sureAddr, Sem.run_bind, Sem.run_pure, Result.andThen_ok]
    have hrun : (storeVar T ⟨g, off, none⟩ (.agg cells)).run P w = .ok () (w.setRow g (cur.toList.take off ++ cells.toList ++ cur.toList.drop (off + cells.toList.length)).toArray) := by
      simp [storeVar, sizeOf, typeInfo, hq, Value.cells, hs, hst]
    simp only [hrun, Result.andThen_ok]
    exact hK' _ _ (h _ _ hput (by simp; omega) ⟨fun q hq => setRow_other w g q _ hq, fun B w0 hb hB => below_setRow hb hB _, by simp [World.setRow]⟩)
/-- A load of a whole variable, guarded or not. -/
theorem wpList_ldw (hw : Region.wanted o (yielded ops a.tmps) = true) (T : TypeId) (p : Operand) (ho : o.op = .load T p) (g : Nat) (cells : List Value) (E : TypeId) (hp : a.eval p = .pointer (some ⟨g, 0, none⟩)) (hK : Blk E w g cells)
    (ha : (isAgg T).run P w = .ok true w) (hs : (sizeOf T).run P w = .ok cells.length w) (h : wpList P ops Q rest (a.put o.dst (.agg cells.toArray)) w) : wpList P ops Q (o :: rest) a w := by
  have hl := run_loadCells_list (P := P) w ⟨g, 0, none⟩ cells (fun j v hv => by rw [Addr.add_lit, Nat.zero_add, hK.cell]; exact hv)
  simp only [wpList, hw, if_true]
  left
  unfold Oper.wp execOp
  simp only [ho, hp, Instr.loadAt, Instr.sureAddr, loadVar, Sem.run_bind, Sem.run_pure, Result.andThen_ok, ha, hs, hl, if_true]
  exact h
/-- What such a load yields, in a drawn region. -/
theorem run_ldv {T : TypeId} {p : Operand} {g : Nat} {cells : List Value} {E : TypeId} (ho : o.op = .load T p) (hp : a.eval p = .pointer (some ⟨g, 0, none⟩)) (hK : Blk E w g cells)
    (ha : (isAgg T).run P w = .ok true w) (hs : (sizeOf T).run P w = .ok cells.length w) : (execOp a.eval o).run P w = .ok (.value (.agg cells.toArray)) w := by
  have hl := run_loadCells_list (P := P) w ⟨g, 0, none⟩ cells (fun j v hv => by rw [Addr.add_lit, Nat.zero_add, hK.cell]; exact hv)
  unfold execOp
  simp only [ho, hp, Instr.loadAt, Instr.sureAddr, loadVar, Sem.run_bind, Sem.run_pure, Result.andThen_ok, ha, hs, hl, if_true]
end
def zLv : Value := .agg #[.int .i64 0, .int .i64 0, .int .u16 0, .int .u16 0, .int .u16 0, .int .i64 0, .int .i64 0, .int .u16 0, .int .u16 0, .int .u16 0, .int .i64 0, .int .i64 0, .bool false, .slice none 0 0]
theorem zeroLv : (Try.prog.info? 30).map (·.zero) = some (some zLv) := by kernel_rfl
theorem sizeLv : (Try.prog.info? 30).map (·.size) = some 14 := by kernel_rfl
def zLc : List Value := [.int .i64 0, .int .i64 0, .int .u16 0, .int .u16 0, .int .u16 0, .int .i64 0, .int .i64 0, .int .u16 0, .int .u16 0, .int .u16 0, .int .i64 0, .int .i64 0, .bool false, .slice none 0 0]
theorem zLv_cells : zLv.cells.toList = zLc := rfl
end Go.Proofs.Yteadkgjikaikjaa.kit
