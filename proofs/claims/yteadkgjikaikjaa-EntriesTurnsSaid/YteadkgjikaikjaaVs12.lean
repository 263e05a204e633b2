/- More laws for variables that hold a log or an entry: a field that is stored or loaded, the end of a function. Conditions: those that each theorem names. -/
import Derived.Test.YteadkgjikaikjaaVr12
namespace Go.Proofs.Yteadkgjikaikjaa.kit
open Go Go.RowKit Go.Proofs.Yteadkgjikaikjaa.nums Go.Proofs.Yteadkgjikaikjaa.cf Go.Proofs.Yteadkgjikaikjaa.lg
set_option linter.unusedVariables false
theorem put_set (w : World) (g i : Nat) (u : Value) : Put w (w.setCell ⟨g, i, none⟩ u) g :=
  ⟨fun q hq => Below.heap_setCell w ⟨g, i, none⟩ u q hq, fun B w0 hb hB => hb.setCell (p := ⟨g, i, none⟩) hB u, by simp [World.setCell]⟩
section
variable {w : World} {g : Nat} {E : TypeId} {L : LgL} {s : Value}
/-- A log whose entries, base, term were written. -/
theorem set_es (h : Blk E w g (lgC L s)) (u : Value) : Blk E (w.setCell ⟨g, 13, none⟩ u) g (lgC L u) := h.set_ 13 u
theorem set_b (h : Blk E w g (lgC L s)) (b : Int) : Blk E (w.setCell ⟨g, 0, none⟩ (.int .i64 b)) g (lgC { L with b := b } s) := h.set_ 0 _
theorem set_t (h : Blk E w g (lgC L s)) (t : Int) : Blk E (w.setCell ⟨g, 1, none⟩ (.int .i64 t)) g (lgC { L with t := t } s) := h.set_ 1 _
end
theorem zLc_lg : zLc = lgC zL (.slice none 0 0) := rfl
/-- What the cells of a whole variable are, for the end of a function. -/
theorem ldL {P : Program} {E : TypeId} {w : World} {g : Nat} {L : LgL} {s : Value} (h : Blk E w g (lgC L s)) : (loadCellsFrom ⟨g, 0, none⟩ 0 14 #[]).run P w = .ok (lgC L s).toArray w :=
  run_loadCells_list (P := P) w ⟨g, 0, none⟩ (lgC L s) (fun j v hv => by rw [Addr.add_lit, Nat.zero_add, h.cell]; exact hv)
def jC (j : JtL) : List Value := [j0 j, j1 j, j2 j, j3 j, j4 j, j5 j, j6 j, j7 j, j8 j, j9 j, j10 j]
section
variable {w : World} {ops : Array Oper} {rest : List Oper} {o : Oper} {a : Act} {Q : Exit → Act → World → Prop} {g : Nat} {E : TypeId} {L M : LgL} {s : Value} {x y : EnL}
/-- Loads, the operation asked first (where another one stands, it fails at once). -/
theorem lo_L (p : Operand) (ho : o.op = .load 30 p) (hw : Region.wanted o (yielded ops a.tmps) = true) (hp : a.eval p = .pointer (some ⟨g, 0, none⟩)) (hK : Blk E w g (lgC L s))
    (h : wpList Try.prog ops Q rest (a.put o.dst (lgV L s)) w) : wpList Try.prog ops Q (o :: rest) a w := ld_L hw p ho hp hK h
theorem lo_E (p : Operand) (ho : o.op = .load 37 p) (hw : Region.wanted o (yielded ops a.tmps) = true) (hp : a.eval p = .pointer (some ⟨g, 0, none⟩)) (hK : Blk E w g (enC x))
    (h : wpList Try.prog ops Q rest (a.put o.dst (enV x)) w) : wpList Try.prog ops Q (o :: rest) a w := ld_E hw p ho hp hK h
theorem at_jL (h : Blk E w g (lgC L s)) : At w g 2 (jC L.j) := fun i u hu => by
  rw [h.cell (2 + i)]
  have hi : i < 11 := (List.getElem?_eq_some_iff.1 hu).1
  rw [← hu]
  show (lgC L s)[2 + i]? = (jC L.j)[i]?
  rw [show lgC L s = [.int .i64 L.b, .int .i64 L.t] ++ (jC L.j ++ [s]) from rfl, List.getElem?_append_right (by show 2 ≤ _; omega), List.getElem?_append_left (by show _ < 11; simp; omega)]
  congr 1
  show 2 + i - 2 = i
  omega
theorem at_jE (h : Blk E w g (enC x)) : At w g 3 (jC x.j) := fun i u hu => by
  rw [h.cell (3 + i)]
  have hi : i < 11 := (List.getElem?_eq_some_iff.1 hu).1
  rw [← hu]
  rw [show enC x = [.int .i64 x.t, .int .i64 x.k, .string x.d] ++ jC x.j from rfl, List.getElem?_append_right (by show 3 ≤ _; omega)]
  congr 1
  show 3 + i - 3 = i
  omega
theorem run_ldJ {p : Operand} {off : Nat} {j : JtL} (ho : o.op = .load 27 p) (hp : a.eval p = .pointer (some ⟨g, off, none⟩)) (hK : At w g off (jC j)) : (execOp a.eval o).run Try.prog w = .ok (.value (jV j)) w := by
  have hl := run_loadCells_list (P := Try.prog) w ⟨g, off, none⟩ (jC j) (fun i v hv => by rw [Addr.add_lit]; exact hK i v hv)
  have ha := aggJ w
  have hs : (sizeOf 27).run Try.prog w = .ok (jC j).length w := sizeJ w
  unfold execOp
  simp only [ho, hp, Instr.loadAt, Instr.sureAddr, loadVar, Sem.run_bind, Sem.run_pure, Result.andThen_ok, ha, hs, hl, if_true]
  rfl
theorem ld_J (hw : Region.wanted o (yielded ops a.tmps) = true) (p : Operand) {off : Nat} {j : JtL} (ho : o.op = .load 27 p) (hp : a.eval p = .pointer (some ⟨g, off, none⟩)) (hK : At w g off (jC j))
    (h : wpList Try.prog ops Q rest (a.put o.dst (jV j)) w) : wpList Try.prog ops Q (o :: rest) a w := by
  have hr := run_ldJ (w := w) (a := a) ho hp hK
  simp only [wpList, hw, if_true]
  left
  unfold Oper.wp
  rw [hr]
  exact h
theorem sizeJv : (Try.prog.info? 27).map (·.size) = some 11 := by kernel_rfl
theorem setRow_jL (h : Blk E w g (lgC L s)) (j : JtL) : Blk E (w.setRow g (((lgC L s).take 2) ++ jC j ++ (lgC L s).drop 13).toArray) g (lgC { L with j := j } s) := by
  have := setRow_heap w g (lgC L s).toArray (((lgC L s).take 2) ++ jC j ++ (lgC L s).drop 13).toArray E (0, 0) h
  exact this
theorem run_stJ {p v : Operand} {j : JtL} (ho : o.op = .store 27 p v) (hp : a.eval p = .pointer (some ⟨g, 2, none⟩)) (hv : a.eval v = jV j) (hK : Blk E w g (lgC L s)) :
    ∃ w', (execOp a.eval o).run Try.prog w = .ok .skip w' ∧ Blk E w' g (lgC { L with j := j } s) ∧ Put w w' g := by
  have hst := run_storeCells_at Try.prog g 2 E (jC j) 0 (lgC L s).toArray w hK (by show 2 + 0 + 11 ≤ 14; omega) (fun u hu => by
    simp only [jC, List.mem_cons, List.not_mem_nil, or_false] at hu
    rcases hu with rfl | rfl | rfl | rfl | rfl | rfl | rfl | rfl | rfl | rfl | rfl <;> rfl)
  refine ⟨_, ?_, setRow_jL hK j, ⟨fun q hq => setRow_other w g q _ hq, fun B w0 hb hB => below_setRow hb hB _, by simp [World.setRow]⟩⟩
  obtain ⟨i, hi, hz0, hz1, hz2⟩ := info_parts infoJt
  have hrun : (storeVar 27 ⟨g, 2, none⟩ (jV j)).run Try.prog w = .ok () (w.setRow g (((lgC L s).take 2) ++ jC j ++ (lgC L s).drop 13).toArray) := by
    have h2 : (storeCells ⟨g, 2, none⟩ (jV j).cells.toList).run Try.prog w = .ok () (w.setRow g (((lgC L s).take 2) ++ jC j ++ (lgC L s).drop 13).toArray) := hst
    have h3 : (jV j).cells.size = 11 := rfl
    simp [storeVar, sizeOf, typeInfo, hi, hz1, h3, h2]
  unfold execOp
  simp only [ho, hp, hv, Instr.storeAt, Instr.sureAddr, Sem.run_bind, Sem.run_pure, Result.andThen_ok, hrun]
theorem st_J (hgd : o.guard = none) (p v : Operand) (ho : o.op = .store 27 p v) (j : JtL) (hp : a.eval p = .pointer (some ⟨g, 2, none⟩)) (hv : a.eval v = jV j) (hK : Blk E w g (lgC L s))
    (h : ∀ w', Blk E w' g (lgC { L with j := j } s) → Put w w' g → wpList Try.prog ops Q rest (a.put o.dst undef) w') : wpList Try.prog ops Q (o :: rest) a w := by
  refine wpList_plain hgd fun K hK' => ?_
  obtain ⟨w', hr, h1, h2⟩ := run_stJ ho hp hv hK
  unfold Oper.wp
  rw [hr]
  exact hK' _ _ (h w' h1 h2)
/-- A slice of one entry that is written out. -/
theorem run_bs1 (x : EnL) (w : World) : (Instr.buildSlice 28 1 #[(0, enV x)]).run Try.prog w = .ok (.slice (some ⟨w.heap.size, 0, none⟩) 1 1) (w.alloc (.cells (enC x).toArray 37)) := by kernel_rfl
theorem bs_E (hgd : o.guard = none) (v : Operand) (ho : o.op = .buildSlice 28 1 #[(0, v)]) (x : EnL) (hv : a.eval v = enV x)
    (h : ∀ w', Blk 37 w' w.heap.size (enC x) → Below w.heap.size w w' → wpList Try.prog ops Q rest (a.put o.dst (.slice (some ⟨w.heap.size, 0, none⟩) 1 1)) w') : wpList Try.prog ops Q (o :: rest) a w := by
  refine wpList_plain hgd fun K hK' => ?_
  have hr := run_bs1 x w
  unfold Oper.wp execOp
  simp only [ho, List.map_toArray, List.map_cons, List.map_nil, hv, Sem.run_bind, Sem.run_pure, hr, Result.andThen_ok]
  exact hK' _ _ (h _ (heap_alloc_new w _) ((Below.refl _ _).alloc (Nat.le_refl _) _))
/-- A joint that is stored, in a drawn region. -/
theorem step_stJ {KQ : Act → World → Prop} {EE : Prop} (hgd : o.guard = none) (p v : Operand) (ho : o.op = .store 27 p v) (j : JtL) (hp : a.eval p = .pointer (some ⟨g, 2, none⟩)) (hv : a.eval v = jV j) (hK : Blk E w g (lgC L s))
    (h : ∀ w', Blk E w' g (lgC { L with j := j } s) → Put w w' g → KQ (a.put o.dst undef) w') : if Region.wanted o (yielded ops a.tmps) = true then Oper.wp Try.prog o a w KQ Q else EE := by
  have hw : Region.wanted o (yielded ops a.tmps) = true := by simp [Region.wanted, hgd]
  rw [if_pos hw]
  obtain ⟨w', hr, h1, h2⟩ := run_stJ ho hp hv hK
  unfold Oper.wp
  rw [hr]
  exact h w' h1 h2
/-- What a slice expression yields, in a drawn region. -/
theorem run_slh {sp hi : Operand} {A A' : Option Addr} {n c q c' : Nat} {kh : IntKind} (ho : o.op = .slice 28 sp none (some hi) none) (hs : a.eval sp = .slice A n c) (hhi : a.eval hi = .int kh (q : Int)) (hq : q ≤ c) (he : Go.sliced A 0 q c 14 = .slice A' q c') : (execOp a.eval o).run Try.prog w = .ok (.value (.slice A' q c')) w := by
  have hrun := run_slice_h (P := Try.prog) w 28 A n c (by rw [elemE]; exact Try.underlying28) kh (q : Int) (by omega) (by omega)
  rw [elemE, sizeE, Int.toNat_natCast] at hrun
  have hat := run_sliceAt_slice (P := Try.prog) w 28 (.slice A n c) none (some (.int kh (q : Int))) none (by rw [elemE]; exact Try.underlying28)
  unfold execOp
  simp only [ho, Option.map_some, Option.map_none, hs, hhi, Sem.run_bind, hat, hrun, Result.andThen_ok, Sem.run_pure, he]
theorem run_sll {sp lo : Operand} {A A' : Option Addr} {n c p m c' : Nat} {kl : IntKind} (ho : o.op = .slice 28 sp (some lo) none none) (hs : a.eval sp = .slice A n c) (hlo : a.eval lo = .int kl (p : Int)) (hp : p ≤ n) (he : Go.sliced A p n c 14 = .slice A' m c') : (execOp a.eval o).run Try.prog w = .ok (.value (.slice A' m c')) w := by
  have hrun := run_slice_l (P := Try.prog) w 28 A n c (by rw [elemE]; exact Try.underlying28) kl (p : Int) (by omega) (by omega)
  rw [elemE, sizeE, Int.toNat_natCast] at hrun
  have hat := run_sliceAt_slice (P := Try.prog) w 28 (.slice A n c) (some (.int kl (p : Int))) none none (by rw [elemE]; exact Try.underlying28)
  unfold execOp
  simp only [ho, Option.map_some, Option.map_none, hs, hlo, Sem.run_bind, hat, hrun, Result.andThen_ok, Sem.run_pure, he]
end
/-- The pieces of a row that is read. -/
theorem RdE.upto {w : World} {B n c q : Nat} {A : Option Addr} {es : List EnL} (h : RdE w B A n es) (hq : q ≤ n) (hc : n ≤ c) : ∃ A' c', Go.sliced A 0 q c 14 = .slice A' q c' ∧ RdE w B A' q (es.take q) := by
  obtain ⟨A', e, hR⟩ := h.sliced (Nat.zero_le q) hq (Nat.le_trans hq hc)
  rw [Nat.sub_zero, List.drop_zero] at hR
  exact ⟨A', c, by rw [e, Nat.sub_zero, Nat.sub_zero], hR⟩
theorem RdE.from {w : World} {B n c p : Nat} {A : Option Addr} {es : List EnL} (h : RdE w B A n es) (hp : p ≤ n) (hc : n ≤ c) : ∃ A' c', Go.sliced A p n c 14 = .slice A' (n - p) c' ∧ RdE w B A' (n - p) (es.drop p) := by
  obtain ⟨A', e, hR⟩ := h.sliced hp (Nat.le_refl n) hc
  rw [List.take_of_length_le (by rw [List.length_drop, h.1]; exact Nat.le_refl _)] at hR
  exact ⟨A', _, e, hR⟩
end Go.Proofs.Yteadkgjikaikjaa.kit
