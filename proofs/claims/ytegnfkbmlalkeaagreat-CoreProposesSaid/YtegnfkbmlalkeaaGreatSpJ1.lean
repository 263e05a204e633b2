/- How entries, slices of entries, and logs, that come in read, in the words of the kit (stage 12). No condition. -/
import Derived.Laws.Tables
import Derived.Laws.MakeOwn
import Derived.Laws.AppendOwn
import Derived.Deep.RegionHeld3
import Derived.Deep.Cut
import Derived.Lib.Hide
import Derived.Laws.StructEq
import Derived.BigQuiet
import Derived.Test.YtegnfkbmlalkeaaGreatSpKitLg
import Derived.Test.YtegnfkbmlalkeaaGreatSpJ0
import Derived.Test.YtegnfkbmlalkeaaGreatSpRef9
set_option linter.unusedVariables false
set_option maxHeartbeats 16000000
set_option maxRecDepth 10000
namespace Go.Proofs.YtegnfkbmlalkeaaGreat.kit
open Go Go.RowKit nums
structure Put (w w' : World) (g : Nat) : Prop where
 other : ∀ q, q ≠ g → w'.heap[q]? = w.heap[q]?
 below : ∀ B w0, Below B w0 w → B ≤ g → Below B w0 w'
 size : w'.heap.size = w.heap.size
theorem Blk.put {w w' : World} {g q : Nat} {E : TypeId} {cs : List Value} (h : Blk E w q cs) (hp : Put w w' g) (hq : q ≠ g) : Blk E w' q cs := (hp.other q hq).trans h
theorem put_setRow {w : World} {g : Nat} {old : List Value} {E : TypeId} (hK : Blk E w g old) (cells : Array Value) : Blk E (w.setRow g cells) g cells.toList ∧ Put w (w.setRow g cells) g := by
 refine ⟨?_, ⟨fun q hq => setRow_other w g q cells hq, fun B w0 hb hB => below_setRow hb hB cells, by simp [World.setRow]⟩⟩
 have := setRow_heap w g old.toArray cells E (0, 0) hK
 unfold Blk
 rw [this]
section
variable {P : Program} {w : World} {ops : Array Oper} {rest : List Oper} {o : Oper} {a : Act} {Q : Exit → Act → World → Prop}
theorem wpList_st (hgd : o.guard = none) (T : TypeId) (p v : Operand) (ho : o.op = .store T p v) (g : Nat) (cells : Array Value) (old : List Value) (E : TypeId) (hp : a.eval p = .pointer (some ⟨g, 0, none⟩)) (hv : a.eval v = .agg cells) (hK : Blk E w g old)
  (hi : (P.info? T).map (·.size) = some cells.size) (hl : old.length = cells.size) (h1 : cells.toList.all (·.oneCell') = true)
  (h : ∀ w', Blk E w' g cells.toList → Put w w' g → wpList P ops Q rest (a.put o.dst undef) w') : wpList P ops Q (o :: rest) a w := by
 refine wpList_plain hgd fun K hK' => ?_
 have hrun := run_storeVar_row (P := P) w g E T old.toArray cells hK hi (by simpa using hl) (Array.all_eq_true_iff_forall_mem.2 (fun u hu => List.all_eq_true.1 h1 u (by simpa using hu)))
 obtain ⟨k1, k2⟩ := put_setRow hK cells
 unfold Oper.wp execOp
 simp only [ho, hp, hv, Instr.storeAt, Instr.sureAddr, Sem.run_bind, Sem.run_pure, Result.andThen_ok, hrun]
 exact hK' _ _ (h _ k1 k2)
theorem wpList_al (hgd : o.guard = none) (T : TypeId) (ho : o.op = .alloc T) (z : Value) (hz : (P.info? T).map (·.zero) = some (some z)) (cells : List Value) (hc : z.cells.toList = cells)
  (h : ∀ w', Blk T w' w.heap.size cells → Below w.heap.size w w' → Hid (w'.heap.size = w.heap.size + 1) → wpList P ops Q rest (a.put o.dst (.pointer (some ⟨w.heap.size, 0, none⟩))) w') : wpList P ops Q (o :: rest) a w := by
 subst hc
 refine wpList_plain hgd fun K hK' => ?_
 cases hq : P.info? T with
 | none => simp [hq] at hz
 | some i =>
  have hz' : i.zero = some z := by simpa [hq] using hz
  unfold Oper.wp execOp
  simp [ho, Instr.alloc, zeroValue, typeInfo, hq, hz', newVar, newRow, Sem.run_bind, Sem.run_pure]
  refine hK' _ _ (h _ (heap_alloc_new w _) ((Below.refl _ _).alloc (Nat.le_refl _) _) (by show (w.heap.push _).size = _; simp))
theorem wpList_ldw (hw : Region.wanted o (yielded ops a.tmps) = true) (T : TypeId) (p : Operand) (ho : o.op = .load T p) (g : Nat) (cells : List Value) (E : TypeId) (hp : a.eval p = .pointer (some ⟨g, 0, none⟩)) (hK : Blk E w g cells)
  (ha : (isAgg T).run P w = .ok true w) (hs : (sizeOf T).run P w = .ok cells.length w) (h : wpList P ops Q rest (a.put o.dst (.agg cells.toArray)) w) : wpList P ops Q (o :: rest) a w := by
 have hl := run_loadCells_list (P := P) w ⟨g, 0, none⟩ cells (fun j v hv => by rw [Addr.add_lit, Nat.zero_add, hK.cell]; exact hv)
 simp only [wpList, hw, if_true]
 left
 unfold Oper.wp execOp
 simp only [ho, hp, Instr.loadAt, Instr.sureAddr, loadVar, Sem.run_bind, Sem.run_pure, Result.andThen_ok, ha, hs, hl, if_true]
 exact h
theorem run_ldv {T : TypeId} {p : Operand} {g : Nat} {cells : List Value} {E : TypeId} (ho : o.op = .load T p) (hp : a.eval p = .pointer (some ⟨g, 0, none⟩)) (hK : Blk E w g cells)
  (ha : (isAgg T).run P w = .ok true w) (hs : (sizeOf T).run P w = .ok cells.length w) : (execOp a.eval o).run P w = .ok (.value (.agg cells.toArray)) w := by
 have hl := run_loadCells_list (P := P) w ⟨g, 0, none⟩ cells (fun j v hv => by rw [Addr.add_lit, Nat.zero_add, hK.cell]; exact hv)
 unfold execOp
 simp only [ho, hp, Instr.loadAt, Instr.sureAddr, loadVar, Sem.run_bind, Sem.run_pure, Result.andThen_ok, ha, hs, hl, if_true]
end
def zLv : Value := .agg #[.int .i64 0, .int .i64 0, .int .u16 0, .int .u16 0, .int .u16 0, .int .i64 0, .int .i64 0, .int .u16 0, .int .u16 0, .int .u16 0, .int .i64 0, .int .i64 0, .bool false, .slice none 0 0]
theorem zeroLv : (Tryz.prog.info? 30).map (·.zero) = some (some zLv) := by kernel_rfl
theorem sizeLv : (Tryz.prog.info? 30).map (·.size) = some 14 := by kernel_rfl
def zLc : List Value := [.int .i64 0, .int .i64 0, .int .u16 0, .int .u16 0, .int .u16 0, .int .i64 0, .int .i64 0, .int .u16 0, .int .u16 0, .int .u16 0, .int .i64 0, .int .i64 0, .bool false, .slice none 0 0]
theorem zLv_cells : zLv.cells.toList = zLc := rfl
end Go.Proofs.YtegnfkbmlalkeaaGreat.kit
namespace Go.Proofs.YtegnfkbmlalkeaaGreat.kit
open Go Go.RowKit nums cf lg
theorem wrap_sm {x : Int} (h1 : -9223372036854775808 ≤ x) (h2 : x ≤ 9223372036854775807) : IntKind.i64.wrap x = x := by
 rw [IntKind.wrap_i64]; omega
theorem sizeEv : (Tryz.prog.info? 52).map (·.size) = some 14 := by kernel_rfl
theorem lg_one (L : LgL) {A : Option Addr} {n c : Nat} : (lgC L (.slice A n c)).all (·.oneCell') = true := rfl
theorem en_all (x : EnL) : (enC x).all (·.oneCell') = true := rfl
section
variable {P : Program} {w : World} {ops : Array Oper} {rest : List Oper} {o : Oper} {a : Act} {Q : Exit → Act → World → Prop}
theorem wpList_box (hgd : o.guard = none) (T : TypeId) (x : Operand) (ho : o.op = .box T x) (cells : Array Value) (hx : a.eval x = .agg cells)
  (h : ∀ w', Blk T w' w.heap.size cells.toList → Below w.heap.size w w' → Hid (w'.heap.size = w.heap.size + 1) → wpList P ops Q rest (a.put o.dst (.pointer (some ⟨w.heap.size, 0, none⟩))) w') : wpList P ops Q (o :: rest) a w := by
 refine wpList_plain hgd fun K hK' => ?_
 unfold Oper.wp execOp
 simp [ho, hx, Instr.box, newVar, newRow, Value.cells]
 refine hK' _ _ (h _ (heap_alloc_new w _) ((Below.refl _ _).alloc (Nat.le_refl _) _) (by show (w.heap.push _).size = _; simp))
end
section
variable {w : World} {ops : Array Oper} {rest : List Oper} {o : Oper} {a : Act} {Q : Exit → Act → World → Prop} {g : Nat} {E : TypeId} {L M : LgL} {s : Value} {x y : EnL}
theorem box_L (hgd : o.guard = none) (p : Operand) (ho : o.op = .box 30 p) (L : LgL) (s : Value) (hx : a.eval p = lgV L s)
  (h : ∀ w', Blk 30 w' w.heap.size (lgC L s) → Below w.heap.size w w' → Hid (w'.heap.size = w.heap.size + 1) → wpList Tryz.prog ops Q rest (a.put o.dst (.pointer (some ⟨w.heap.size, 0, none⟩))) w') : wpList Tryz.prog ops Q (o :: rest) a w :=
 wpList_box hgd _ p ho _ hx h
theorem box_E (hgd : o.guard = none) (p : Operand) (ho : o.op = .box 52 p) (x : EnL) (hx : a.eval p = enV x)
  (h : ∀ w', Blk 52 w' w.heap.size (enC x) → Below w.heap.size w w' → Hid (w'.heap.size = w.heap.size + 1) → wpList Tryz.prog ops Q rest (a.put o.dst (.pointer (some ⟨w.heap.size, 0, none⟩))) w') : wpList Tryz.prog ops Q (o :: rest) a w :=
 wpList_box hgd _ p ho _ hx h
theorem ld_L (hw : Region.wanted o (yielded ops a.tmps) = true) (p : Operand) (ho : o.op = .load 30 p) (hp : a.eval p = .pointer (some ⟨g, 0, none⟩)) (hK : Blk E w g (lgC L s))
  (h : wpList Tryz.prog ops Q rest (a.put o.dst (lgV L s)) w) : wpList Tryz.prog ops Q (o :: rest) a w :=
 wpList_ldw hw _ p ho g (lgC L s) E hp hK (aggL _) (sizeL _) h
theorem ld_E (hw : Region.wanted o (yielded ops a.tmps) = true) (p : Operand) (ho : o.op = .load 52 p) (hp : a.eval p = .pointer (some ⟨g, 0, none⟩)) (hK : Blk E w g (enC x))
  (h : wpList Tryz.prog ops Q rest (a.put o.dst (enV x)) w) : wpList Tryz.prog ops Q (o :: rest) a w :=
 wpList_ldw hw _ p ho g (enC x) E hp hK (aggE _) (sizeE _) h
theorem st_L (hgd : o.guard = none) (p v : Operand) (ho : o.op = .store 30 p v) (L : LgL) (A : Option Addr) (n c : Nat) (hp : a.eval p = .pointer (some ⟨g, 0, none⟩)) (hv : a.eval v = lgV L (.slice A n c)) (old : List Value) (hK : Blk E w g old) (hl : old.length = 14)
  (h : ∀ w', Blk E w' g (lgC L (.slice A n c)) → Put w w' g → wpList Tryz.prog ops Q rest (a.put o.dst undef) w') : wpList Tryz.prog ops Q (o :: rest) a w :=
 wpList_st hgd _ p v ho g _ old E hp hv hK sizeLv hl (lg_one L) h
theorem st_E (hgd : o.guard = none) (p v : Operand) (ho : o.op = .store 52 p v) (x : EnL) (hp : a.eval p = .pointer (some ⟨g, 0, none⟩)) (hv : a.eval v = enV x) (old : List Value) (hK : Blk E w g old) (hl : old.length = 14)
  (h : ∀ w', Blk E w' g (enC x) → Put w w' g → wpList Tryz.prog ops Q rest (a.put o.dst undef) w') : wpList Tryz.prog ops Q (o :: rest) a w :=
 wpList_st hgd _ p v ho g _ old E hp hv hK sizeEv hl (en_all x) h
theorem al_L (hgd : o.guard = none) (ho : o.op = .alloc 30)
  (h : ∀ w', Blk 30 w' w.heap.size zLc → Below w.heap.size w w' → Hid (w'.heap.size = w.heap.size + 1) → wpList Tryz.prog ops Q rest (a.put o.dst (.pointer (some ⟨w.heap.size, 0, none⟩))) w') : wpList Tryz.prog ops Q (o :: rest) a w :=
 wpList_al hgd _ ho zLv zeroLv zLc zLv_cells h
def zEc : List Value := [.int .i64 0, .int .i64 0, .string ⟨#[]⟩, .int .u16 0, .int .u16 0, .int .u16 0, .int .i64 0, .int .i64 0, .int .u16 0, .int .u16 0, .int .u16 0, .int .i64 0, .int .i64 0, .bool false]
theorem zeroEv : (Tryz.prog.info? 52).map (·.zero) = some (some (.agg zEc.toArray)) := by kernel_rfl
theorem al_E (hgd : o.guard = none) (ho : o.op = .alloc 52)
  (h : ∀ w', Blk 52 w' w.heap.size zEc → Below w.heap.size w w' → Hid (w'.heap.size = w.heap.size + 1) → wpList Tryz.prog ops Q rest (a.put o.dst (.pointer (some ⟨w.heap.size, 0, none⟩))) w') : wpList Tryz.prog ops Q (o :: rest) a w :=
 wpList_al hgd _ ho _ zeroEv zEc rfl h
theorem rld_L {p : Operand} (ho : o.op = .load 30 p) (hp : a.eval p = .pointer (some ⟨g, 0, none⟩)) (hK : Blk E w g (lgC L s)) : (execOp a.eval o).run Tryz.prog w = .ok (.value (lgV L s)) w := run_ldv ho hp hK (aggL _) (sizeL _)
theorem rld_E {p : Operand} (ho : o.op = .load 52 p) (hp : a.eval p = .pointer (some ⟨g, 0, none⟩)) (hK : Blk E w g (enC x)) : (execOp a.eval o).run Tryz.prog w = .ok (.value (enV x)) w := run_ldv ho hp hK (aggE _) (sizeE _)
end
theorem RdE.put {w w' : World} {g B n : Nat} {A : Option Addr} {es : List EnL} (h : RdE w B A n es) (hp : Put w w' g) (hg : B ≤ g) : RdE w' B A n es := h.below (hp.below _ _ (Below.refl _ _) hg)
theorem OwnE.put {w w' : World} {g base : Nat} {v : Value} {es : List EnL} (h : OwnE w base v es) (hp : Put w w' g) (hg : g < base) : OwnE w' base v es := h.keep fun q hq => hp.other q (by omega)
def RdN (w : World) (g : Nat) (A : Option Addr) (n : Nat) (es : List EnL) : Prop := RdE w w.heap.size A n es ∧ ∀ b o, 0 < n → A = some ⟨b, o, none⟩ → b ≠ g
theorem RdN.rd {w : World} {g n : Nat} {A : Option Addr} {es : List EnL} (h : RdN w g A n es) : RdE w w.heap.size A n es := h.1
theorem RdN.below {w w' : World} {g n : Nat} {A : Option Addr} {es : List EnL} (h : RdN w g A n es) (hb : Below w.heap.size w w') : RdN w' g A n es := ⟨h.1.on hb hb.size, h.2⟩
theorem RdN.put {w w' : World} {g n : Nat} {A : Option Addr} {es : List EnL} (h : RdN w g A n es) (hp : Put w w' g) : RdN w' g A n es := ⟨⟨h.1.1, fun hn => by
 obtain ⟨b, o, e, hlt, hc⟩ := h.1.2 hn
 refine ⟨b, o, e, by rw [hp.size]; exact hlt, fun j x hx q u hu => ?_⟩
 have hk := hp.other b (h.2 b o hn e)
 have := hc j x hx q u hu
 simpa [World.cell?, hk] using this⟩, h.2⟩
theorem RdN.of_rd {w : World} {g B n : Nat} {A : Option Addr} {es : List EnL} (h : RdE w B A n es) (hb : B ≤ g) (hB : B ≤ w.heap.size) : RdN w g A n es := ⟨h.more hB, fun b o hn e => by
 obtain ⟨b', o', e', hlt, _⟩ := h.2 hn
 rw [e] at e'
 have := Option.some.inj e'
 simp only [Addr.mk.injEq] at this
 omega⟩
theorem RdN.of_own {w : World} {g base n c : Nat} {A : Option Addr} {es : List EnL} (h : OwnE w base (.slice A n c) es) (hg : g < base) : RdN w g A n es := ⟨h.cap.2.2.2, fun b o hn e => by
 rcases h.2 with ⟨hv, hn0⟩ | ⟨g', cap, cur, hv, hb, _⟩
 ·
  simp only [Value.slice.injEq] at hv
  rw [hv.1] at e; cases e
 ·
  simp only [Value.slice.injEq] at hv
  rw [hv.1] at e
  have := Option.some.inj e
  simp only [Addr.mk.injEq] at this
  omega⟩
end Go.Proofs.YtegnfkbmlalkeaaGreat.kit
namespace Go.Proofs.YtegnfkbmlalkeaaGreat.kit
open Go Go.RowKit nums cf lg
theorem put_set (w : World) (g i : Nat) (u : Value) : Put w (w.setCell ⟨g, i, none⟩ u) g :=
 ⟨fun q hq => Below.heap_setCell w ⟨g, i, none⟩ u q hq, fun B w0 hb hB => hb.setCell (p := ⟨g, i, none⟩) hB u, by simp [World.setCell]⟩
section
variable {w : World} {g : Nat} {E : TypeId} {L : LgL} {s : Value}
theorem set_es (h : Blk E w g (lgC L s)) (u : Value) : Blk E (w.setCell ⟨g, 13, none⟩ u) g (lgC L u) := h.set_ 13 u
theorem set_b (h : Blk E w g (lgC L s)) (b : Int) : Blk E (w.setCell ⟨g, 0, none⟩ (.int .i64 b)) g (lgC { L with b := b } s) := h.set_ 0 _
theorem set_t (h : Blk E w g (lgC L s)) (t : Int) : Blk E (w.setCell ⟨g, 1, none⟩ (.int .i64 t)) g (lgC { L with t := t } s) := h.set_ 1 _
end
theorem ldL {P : Program} {E : TypeId} {w : World} {g : Nat} {L : LgL} {s : Value} (h : Blk E w g (lgC L s)) : (loadCellsFrom ⟨g, 0, none⟩ 0 14 #[]).run P w = .ok (lgC L s).toArray w :=
 run_loadCells_list (P := P) w ⟨g, 0, none⟩ (lgC L s) (fun j v hv => by rw [Addr.add_lit, Nat.zero_add, h.cell]; exact hv)
def jC (j : JtL) : List Value := [j0 j, j1 j, j2 j, j3 j, j4 j, j5 j, j6 j, j7 j, j8 j, j9 j, j10 j]
section
variable {w : World} {ops : Array Oper} {rest : List Oper} {o : Oper} {a : Act} {Q : Exit → Act → World → Prop} {g : Nat} {E : TypeId} {L M : LgL} {s : Value} {x y : EnL}
theorem lo_L (p : Operand) (ho : o.op = .load 30 p) (hw : Region.wanted o (yielded ops a.tmps) = true) (hp : a.eval p = .pointer (some ⟨g, 0, none⟩)) (hK : Blk E w g (lgC L s))
  (h : wpList Tryz.prog ops Q rest (a.put o.dst (lgV L s)) w) : wpList Tryz.prog ops Q (o :: rest) a w := ld_L hw p ho hp hK h
theorem lo_Lj {p : Operand} (hK : Blk E w g (lgC L s)) (h : wpList Tryz.prog ops Q rest (a.put o.dst (lgV L s)) w) (ho : o.op = .load 30 p := by rfl) (hw : Region.wanted o (yielded ops a.tmps) = true := by rfl) (hp : a.eval p = .pointer (some ⟨g, 0, none⟩) := by rfl) : wpList Tryz.prog ops Q (o :: rest) a w := lo_L p ho hw hp hK h
theorem lo_E (p : Operand) (ho : o.op = .load 52 p) (hw : Region.wanted o (yielded ops a.tmps) = true) (hp : a.eval p = .pointer (some ⟨g, 0, none⟩)) (hK : Blk E w g (enC x))
  (h : wpList Tryz.prog ops Q rest (a.put o.dst (enV x)) w) : wpList Tryz.prog ops Q (o :: rest) a w := ld_E hw p ho hp hK h
theorem lo_Ej {p : Operand} (hK : Blk E w g (enC x)) (h : wpList Tryz.prog ops Q rest (a.put o.dst (enV x)) w) (ho : o.op = .load 52 p := by rfl) (hw : Region.wanted o (yielded ops a.tmps) = true := by rfl) (hp : a.eval p = .pointer (some ⟨g, 0, none⟩) := by rfl) : wpList Tryz.prog ops Q (o :: rest) a w := lo_E p ho hw hp hK h
theorem at_jL (h : Blk E w g (lgC L s)) : At w g 2 (jC L.j) := fun i u hu => by
 rw [h.cell (2 + i)]
 have hi : i < 11 := (List.getElem?_eq_some_iff.1 hu).1
 rw [← hu]
 show (lgC L s)[2 + i]? = (jC L.j)[i]?
 rw [show lgC L s = [.int .i64 L.b, .int .i64 L.t] ++ (jC L.j ++ [s]) from rfl, List.getElem?_append_right (by show 2 ≤ _; omega), List.getElem?_append_left (by show _ < 11; simp; omega)]
 congr 1
 show 2 + i - 2 = i
 omega
theorem at_jE (h : Blk E w g (enC x)) : At w g 3 (jC x.j) := fun i u hu => by
 rw [h.cell (3 + i)]
 have hi : i < 11 := (List.getElem?_eq_some_iff.1 hu).1
 rw [← hu]
 rw [show enC x = [.int .i64 x.t, .int .i64 x.k, .string x.d] ++ jC x.j from rfl, List.getElem?_append_right (by show 3 ≤ _; omega)]
 congr 1
 show 3 + i - 3 = i
 omega
theorem run_ldJ {p : Operand} {off : Nat} {j : JtL} (ho : o.op = .load 27 p) (hp : a.eval p = .pointer (some ⟨g, off, none⟩)) (hK : At w g off (jC j)) : (execOp a.eval o).run Tryz.prog w = .ok (.value (jV j)) w := by
 have hl := run_loadCells_list (P := Tryz.prog) w ⟨g, off, none⟩ (jC j) (fun i v hv => by rw [Addr.add_lit]; exact hK i v hv)
 have ha := aggJ w
 have hs : (sizeOf 27).run Tryz.prog w = .ok (jC j).length w := sizeJ w
 unfold execOp
 simp only [ho, hp, Instr.loadAt, Instr.sureAddr, loadVar, Sem.run_bind, Sem.run_pure, Result.andThen_ok, ha, hs, hl, if_true]
 rfl
theorem ld_J (hw : Region.wanted o (yielded ops a.tmps) = true) (p : Operand) {off : Nat} {j : JtL} (ho : o.op = .load 27 p) (hp : a.eval p = .pointer (some ⟨g, off, none⟩)) (hK : At w g off (jC j))
  (h : wpList Tryz.prog ops Q rest (a.put o.dst (jV j)) w) : wpList Tryz.prog ops Q (o :: rest) a w := by
 have hr := run_ldJ (w := w) (a := a) ho hp hK
 simp only [wpList, hw, if_true]
 left
 unfold Oper.wp
 rw [hr]
 exact h
theorem sizeJv : (Tryz.prog.info? 27).map (·.size) = some 11 := by kernel_rfl
theorem setRow_jL (h : Blk E w g (lgC L s)) (j : JtL) : Blk E (w.setRow g (((lgC L s).take 2) ++ jC j ++ (lgC L s).drop 13).toArray) g (lgC { L with j := j } s) := by
 have := setRow_heap w g (lgC L s).toArray (((lgC L s).take 2) ++ jC j ++ (lgC L s).drop 13).toArray E (0, 0) h
 exact this
theorem run_stJ {p v : Operand} {j : JtL} (ho : o.op = .store 27 p v) (hp : a.eval p = .pointer (some ⟨g, 2, none⟩)) (hv : a.eval v = jV j) (hK : Blk E w g (lgC L s)) :
  ∃ w', (execOp a.eval o).run Tryz.prog w = .ok .skip w' ∧ Blk E w' g (lgC { L with j := j } s) ∧ Put w w' g := by
 have hst := run_storeCells_at Tryz.prog g 2 E (jC j) 0 (lgC L s).toArray w hK (by show 2 + 0 + 11 ≤ 14; omega) (fun u hu => by
  simp only [jC, List.mem_cons, List.not_mem_nil, or_false] at hu
  rcases hu with rfl | rfl | rfl | rfl | rfl | rfl | rfl | rfl | rfl | rfl | rfl <;> rfl)
 refine ⟨_, ?_, setRow_jL hK j, ⟨fun q hq => setRow_other w g q _ hq, fun B w0 hb hB => below_setRow hb hB _, by simp [World.setRow]⟩⟩
 obtain ⟨i, hi, hz0, hz1, hz2⟩ := info_parts infoJt
 have hrun : (storeVar 27 ⟨g, 2, none⟩ (jV j)).run Tryz.prog w = .ok () (w.setRow g (((lgC L s).take 2) ++ jC j ++ (lgC L s).drop 13).toArray) := by
  have h2 : (storeCells ⟨g, 2, none⟩ (jV j).cells.toList).run Tryz.prog w = .ok () (w.setRow g (((lgC L s).take 2) ++ jC j ++ (lgC L s).drop 13).toArray) := hst
  have h3 : (jV j).cells.size = 11 := rfl
  simp [storeVar, sizeOf, typeInfo, hi, hz1, h3, h2]
 unfold execOp
 simp only [ho, hp, hv, Instr.storeAt, Instr.sureAddr, Sem.run_bind, Sem.run_pure, Result.andThen_ok, hrun]
theorem st_J (hgd : o.guard = none) (p v : Operand) (ho : o.op = .store 27 p v) (j : JtL) (hp : a.eval p = .pointer (some ⟨g, 2, none⟩)) (hv : a.eval v = jV j) (hK : Blk E w g (lgC L s))
  (h : ∀ w', Blk E w' g (lgC { L with j := j } s) → Put w w' g → wpList Tryz.prog ops Q rest (a.put o.dst undef) w') : wpList Tryz.prog ops Q (o :: rest) a w := by
 refine wpList_plain hgd fun K hK' => ?_
 obtain ⟨w', hr, h1, h2⟩ := run_stJ ho hp hv hK
 unfold Oper.wp
 rw [hr]
 exact hK' _ _ (h w' h1 h2)
theorem run_bs1 (x : EnL) (w : World) : (Instr.buildSlice 28 1 #[(0, enV x)]).run Tryz.prog w = .ok (.slice (some ⟨w.heap.size, 0, none⟩) 1 1) (w.alloc (.cells (enC x).toArray 52)) := by kernel_rfl
theorem bs_E (hgd : o.guard = none) (v : Operand) (ho : o.op = .buildSlice 28 1 #[(0, v)]) (x : EnL) (hv : a.eval v = enV x)
  (h : ∀ w', Blk 52 w' w.heap.size (enC x) → Below w.heap.size w w' → wpList Tryz.prog ops Q rest (a.put o.dst (.slice (some ⟨w.heap.size, 0, none⟩) 1 1)) w') : wpList Tryz.prog ops Q (o :: rest) a w := by
 refine wpList_plain hgd fun K hK' => ?_
 have hr := run_bs1 x w
 unfold Oper.wp execOp
 simp only [ho, List.map_toArray, List.map_cons, List.map_nil, hv, Sem.run_bind, Sem.run_pure, hr, Result.andThen_ok]
 exact hK' _ _ (h _ (heap_alloc_new w _) ((Below.refl _ _).alloc (Nat.le_refl _) _))
theorem step_stJ {KQ : Act → World → Prop} {EE : Prop} (hgd : o.guard = none) (p v : Operand) (ho : o.op = .store 27 p v) (j : JtL) (hp : a.eval p = .pointer (some ⟨g, 2, none⟩)) (hv : a.eval v = jV j) (hK : Blk E w g (lgC L s))
  (h : ∀ w', Blk E w' g (lgC { L with j := j } s) → Put w w' g → KQ (a.put o.dst undef) w') : if Region.wanted o (yielded ops a.tmps) = true then Oper.wp Tryz.prog o a w KQ Q else EE := by
 have hw : Region.wanted o (yielded ops a.tmps) = true := by simp [Region.wanted, hgd]
 rw [if_pos hw]
 obtain ⟨w', hr, h1, h2⟩ := run_stJ ho hp hv hK
 unfold Oper.wp
 rw [hr]
 exact h w' h1 h2
end
end Go.Proofs.YtegnfkbmlalkeaaGreat.kit
namespace Go.Proofs.YtegnfkbmlalkeaaGreat.kit
open Go Go.RowKit kit nums cf lg
theorem Put.refl (w : World) (g : Nat) : Put w w g := ⟨fun _ _ => rfl, fun _ _ h _ => h, rfl⟩
theorem OwnE.blk_lt {w : World} {base n c : Nat} {A : Option Addr} {es : List EnL} (h : OwnE w base (.slice A n c) es) : ∀ b o, A = some ⟨b, o, none⟩ → base ≤ b ∧ b < w.heap.size := fun b o e => by
 rcases h.2 with ⟨hv, hn⟩ | ⟨g, cap, cur, hv, hbg, hg, r⟩
 ·
  simp only [Value.slice.injEq] at hv
  rw [hv.1] at e; cases e
 ·
  simp only [Value.slice.injEq] at hv
  rw [hv.1] at e
  have := Option.some.inj e
  simp only [Addr.mk.injEq] at this
  have h2 := lt_of_block hg
  omega
end Go.Proofs.YtegnfkbmlalkeaaGreat.kit
namespace Go.Proofs.YtegnfkbmlalkeaaGreat.enti
open Go Go.RowKit kit nums cf lg
theorem wrap_sm {z : Int} (h1 : -9000000000000000000 ≤ z) (h2 : z ≤ 9000000000000000000) : IntKind.i64.wrap z = z := by rw [IntKind.wrap_i64]; omega
theorem last_any (L : LgL) (A : Option Addr) (n c : Nat) (w : World) (hn : L.es.length = n) (hf : Fit L) : Calls Tryz.prog 48 #[lgV L (.slice A n c)] w fun e w' => e = .returned (.int .i64 (lastF L)) ∧ Below w.heap.size w w' := by
 obtain ⟨h0, h1, h2⟩ := hf
 have u1 : IntKind.i64.wrap (L.b + (n : Int)) = L.b + (n : Int) := enti.wrap_sm (by omega) (by omega)
 have hl : lastF L = L.b + (n : Int) := by unfold lastF; rw [hn]
 rw [hl]
 unfold lgV
 obtain ⟨b, t, j, es⟩ := L
 dsimp only at *
 clear hl hn
 have k0 : Blk 30 (w.alloc (.cells #[.int .i64 b, .int .i64 t, j0 j, j1 j, j2 j, j3 j, j4 j, j5 j, j6 j, j7 j, j8 j, j9 j, j10 j, .slice A n c] 30)) w.heap.size [.int .i64 b, .int .i64 t, j0 j, j1 j, j2 j, j3 j, j4 j, j5 j, j6 j, j7 j, j8 j, j9 j, j10 j, .slice A n c] := (heap_alloc_new w (.cells #[.int .i64 b, .int .i64 t, j0 j, j1 j, j2 j, j3 j, j4 j, j5 j, j6 j, j7 j, j8 j, j9 j, j10 j, .slice A n c] 30))
 have hB : Below w.heap.size w (w.alloc (.cells #[.int .i64 b, .int .i64 t, j0 j, j1 j, j2 j, j3 j, j4 j, j5 j, j6 j, j7 j, j8 j, j9 j, j10 j, .slice A n c] 30)) := ((Below.refl w.heap.size w).alloc (by first | exact Nat.le_refl _ | simp) (.cells #[.int .i64 b, .int .i64 t, j0 j, j1 j, j2 j, j3 j, j4 j, j5 j, j6 j, j7 j, j8 j, j9 j, j10 j, .slice A n c] 30))
 have HB := Lh hB
 clear hB
 go_enter Tryz.func48, Tryz.ntmps48
 go_wp2_with fail
 go_ret
 exact ⟨rfl, HB.out⟩
theorem behind_any (L : LgL) (A : Option Addr) (n c k : Nat) (i : Int) (w : World) (B : Nat) (hR : RdE w B A n L.es) (hB : B ≤ w.heap.size) (hc : n ≤ c) (hf : Fit L) (hi : i = L.b + k) (hk : k ≤ n) : Calls Tryz.prog 152 #[lgV L (.slice A n c), .int .i64 i] w fun e w' => ∃ A' c', e = .returned (.slice A' (n - k) c') ∧ RdE w' B A' (n - k) (L.es.drop k) ∧ (n - k) ≤ c' ∧ c' ≤ c ∧ Below w.heap.size w w' := by
 obtain ⟨h0, h1, h2⟩ := hf
 have hl := hR.1
 have u1 : IntKind.i64.wrap (i - L.b) = (k : Int) := by rw [enti.wrap_sm (by omega) (by omega)]; omega
 have HR := Lh hR
 have hBs := hB
 clear hi hR hB
 unfold lgV
 obtain ⟨b, t, j, es⟩ := L
 dsimp only at *
 clear h0 h1 h2 hl
 have k0 : Blk 30 (w.alloc (.cells #[.int .i64 b, .int .i64 t, j0 j, j1 j, j2 j, j3 j, j4 j, j5 j, j6 j, j7 j, j8 j, j9 j, j10 j, .slice A n c] 30)) w.heap.size [.int .i64 b, .int .i64 t, j0 j, j1 j, j2 j, j3 j, j4 j, j5 j, j6 j, j7 j, j8 j, j9 j, j10 j, .slice A n c] := (heap_alloc_new w (.cells #[.int .i64 b, .int .i64 t, j0 j, j1 j, j2 j, j3 j, j4 j, j5 j, j6 j, j7 j, j8 j, j9 j, j10 j, .slice A n c] 30))
 have hB : Below w.heap.size w (w.alloc (.cells #[.int .i64 b, .int .i64 t, j0 j, j1 j, j2 j, j3 j, j4 j, j5 j, j6 j, j7 j, j8 j, j9 j, j10 j, .slice A n c] 30)) := ((Below.refl w.heap.size w).alloc (by first | exact Nat.le_refl _ | simp) (.cells #[.int .i64 b, .int .i64 t, j0 j, j1 j, j2 j, j3 j, j4 j, j5 j, j6 j, j7 j, j8 j, j9 j, j10 j, .slice A n c] 30))
 have HB := Lh hB
 clear hB
 go_enter Tryz.func152, Tryz.ntmps152
 go_wp2_with (with_reducible refine wpList_slice_lE rfl _ _ rfl A n c B es rfl (HR.out.on (HB.out.mono hBs) (Nat.le_refl _)) .i64 _ k rfl rfl hk hc ?_)
 intro A' c' hR2 hc1 hc2
 have HR2 := Lh hR2
 clear hR2
 go_wp2_with fail
 go_ret
 exact ⟨A', c', rfl, HR2.out, by omega, by omega, HB.out⟩
theorem upTo_any (L : LgL) (A : Option Addr) (n c k : Nat) (i : Int) (w : World) (B : Nat) (hR : RdE w B A n L.es) (hB : B ≤ w.heap.size) (hc : n ≤ c) (hf : Fit L) (hi : i = L.b + k) (hk : k ≤ n) : Calls Tryz.prog 150 #[lgV L (.slice A n c), .int .i64 i] w fun e w' => ∃ A' c', e = .returned (.slice A' k c') ∧ RdE w' B A' k (L.es.take k) ∧ k ≤ c' ∧ c' ≤ c ∧ Below w.heap.size w w' := by
 obtain ⟨h0, h1, h2⟩ := hf
 have hl := hR.1
 have u1 : IntKind.i64.wrap (i - L.b) = (k : Int) := by rw [enti.wrap_sm (by omega) (by omega)]; omega
 have HR := Lh hR
 have hBs := hB
 clear hi hR hB
 unfold lgV
 obtain ⟨b, t, j, es⟩ := L
 dsimp only at *
 clear h0 h1 h2 hl
 have k0 : Blk 30 (w.alloc (.cells #[.int .i64 b, .int .i64 t, j0 j, j1 j, j2 j, j3 j, j4 j, j5 j, j6 j, j7 j, j8 j, j9 j, j10 j, .slice A n c] 30)) w.heap.size [.int .i64 b, .int .i64 t, j0 j, j1 j, j2 j, j3 j, j4 j, j5 j, j6 j, j7 j, j8 j, j9 j, j10 j, .slice A n c] := (heap_alloc_new w (.cells #[.int .i64 b, .int .i64 t, j0 j, j1 j, j2 j, j3 j, j4 j, j5 j, j6 j, j7 j, j8 j, j9 j, j10 j, .slice A n c] 30))
 have hB : Below w.heap.size w (w.alloc (.cells #[.int .i64 b, .int .i64 t, j0 j, j1 j, j2 j, j3 j, j4 j, j5 j, j6 j, j7 j, j8 j, j9 j, j10 j, .slice A n c] 30)) := ((Below.refl w.heap.size w).alloc (by first | exact Nat.le_refl _ | simp) (.cells #[.int .i64 b, .int .i64 t, j0 j, j1 j, j2 j, j3 j, j4 j, j5 j, j6 j, j7 j, j8 j, j9 j, j10 j, .slice A n c] 30))
 have HB := Lh hB
 clear hB
 go_enter Tryz.func150, Tryz.ntmps150
 go_wp2_with (with_reducible refine wpList_slice_hE rfl _ _ rfl A n c B es rfl (HR.out.on (HB.out.mono hBs) (Nat.le_refl _)) .i64 _ k rfl rfl hk hc ?_)
 intro A' c' hR2 hc1 hc2
 have HR2 := Lh hR2
 clear hR2
 go_wp2_with fail
 go_ret
 exact ⟨A', c', rfl, HR2.out, by omega, by omega, HB.out⟩
end Go.Proofs.YtegnfkbmlalkeaaGreat.enti
namespace Go.Proofs.YtegnfkbmlalkeaaGreat.ref12
open Go Go.RowKit kit nums cf lg
theorem rcopy_any (L : LgL) (A : Option Addr) (n c : Nat) (w : World) (B : Nat) (hR : RdE w B A n L.es) (hB : B ≤ w.heap.size) (hc : n ≤ c) (hf : Fit L) : Calls Tryz.prog 16 #[lgV L (.slice A n c)] w fun e w' => ∃ A' c', e = .returned (lgV L (.slice A' n c')) ∧ OwnE w' w.heap.size (.slice A' n c') L.es ∧ Below w.heap.size w w' := by
 have HR := Lh hR
 have hl := hR.1
 have HF := Lh hf
 have hBs := Lh hB
 have f2 := hf.2.2
 rw [hl] at f2
 clear hR hB hl hf
 unfold lgV at *
 obtain ⟨b, t, j, es⟩ := L
 dsimp only at *
 have k0 : Blk 30 (w.alloc (.cells #[.int .i64 b, .int .i64 t, j0 j, j1 j, j2 j, j3 j, j4 j, j5 j, j6 j, j7 j, j8 j, j9 j, j10 j, .slice A n c] 30)) w.heap.size [.int .i64 b, .int .i64 t, j0 j, j1 j, j2 j, j3 j, j4 j, j5 j, j6 j, j7 j, j8 j, j9 j, j10 j, .slice A n c] := (heap_alloc_new w (.cells #[.int .i64 b, .int .i64 t, j0 j, j1 j, j2 j, j3 j, j4 j, j5 j, j6 j, j7 j, j8 j, j9 j, j10 j, .slice A n c] 30))
 replace k0 : Blk 30 ((w.alloc (.cells #[.int .i64 b, .int .i64 t, j0 j, j1 j, j2 j, j3 j, j4 j, j5 j, j6 j, j7 j, j8 j, j9 j, j10 j, .slice A n c] 30)).alloc (.cells #[.int .i64 0, .int .i64 0, .int .u16 0, .int .u16 0, .int .u16 0, .int .i64 0, .int .i64 0, .int .u16 0, .int .u16 0, .int .u16 0, .int .i64 0, .int .i64 0, .bool false, .slice none 0 0] 30)) w.heap.size [.int .i64 b, .int .i64 t, j0 j, j1 j, j2 j, j3 j, j4 j, j5 j, j6 j, j7 j, j8 j, j9 j, j10 j, .slice A n c] := k0.alloc _
 have k1 : Blk 30 ((w.alloc (.cells #[.int .i64 b, .int .i64 t, j0 j, j1 j, j2 j, j3 j, j4 j, j5 j, j6 j, j7 j, j8 j, j9 j, j10 j, .slice A n c] 30)).alloc (.cells #[.int .i64 0, .int .i64 0, .int .u16 0, .int .u16 0, .int .u16 0, .int .i64 0, .int .i64 0, .int .u16 0, .int .u16 0, .int .u16 0, .int .i64 0, .int .i64 0, .bool false, .slice none 0 0] 30)) (w.heap.size + 1) [.int .i64 0, .int .i64 0, .int .u16 0, .int .u16 0, .int .u16 0, .int .i64 0, .int .i64 0, .int .u16 0, .int .u16 0, .int .u16 0, .int .i64 0, .int .i64 0, .bool false, .slice none 0 0] := (by have h := heap_alloc_new (w.alloc (.cells #[.int .i64 b, .int .i64 t, j0 j, j1 j, j2 j, j3 j, j4 j, j5 j, j6 j, j7 j, j8 j, j9 j, j10 j, .slice A n c] 30)) (.cells #[.int .i64 0, .int .i64 0, .int .u16 0, .int .u16 0, .int .u16 0, .int .i64 0, .int .i64 0, .int .u16 0, .int .u16 0, .int .u16 0, .int .i64 0, .int .i64 0, .bool false, .slice none 0 0] 30); rwa [show (w.alloc (.cells #[.int .i64 b, .int .i64 t, j0 j, j1 j, j2 j, j3 j, j4 j, j5 j, j6 j, j7 j, j8 j, j9 j, j10 j, .slice A n c] 30)).heap.size = w.heap.size + 1 by simp] at h)
 have hB : Below w.heap.size w ((w.alloc (.cells #[.int .i64 b, .int .i64 t, j0 j, j1 j, j2 j, j3 j, j4 j, j5 j, j6 j, j7 j, j8 j, j9 j, j10 j, .slice A n c] 30)).alloc (.cells #[.int .i64 0, .int .i64 0, .int .u16 0, .int .u16 0, .int .u16 0, .int .i64 0, .int .i64 0, .int .u16 0, .int .u16 0, .int .u16 0, .int .i64 0, .int .i64 0, .bool false, .slice none 0 0] 30)) := (((Below.refl w.heap.size w).alloc (by first | exact Nat.le_refl _ | (simp; done) | (simp; omega)) (.cells #[.int .i64 b, .int .i64 t, j0 j, j1 j, j2 j, j3 j, j4 j, j5 j, j6 j, j7 j, j8 j, j9 j, j10 j, .slice A n c] 30)).alloc (by first | exact Nat.le_refl _ | (simp; done) | (simp; omega)) (.cells #[.int .i64 0, .int .i64 0, .int .u16 0, .int .u16 0, .int .u16 0, .int .i64 0, .int .i64 0, .int .u16 0, .int .u16 0, .int .u16 0, .int .i64 0, .int .i64 0, .bool false, .slice none 0 0] 30))
 have HB := Lh hB
 have HS : Hid (∀ wq, Below ((w.alloc (.cells #[.int .i64 b, .int .i64 t, j0 j, j1 j, j2 j, j3 j, j4 j, j5 j, j6 j, j7 j, j8 j, j9 j, j10 j, .slice A n c] 30)).alloc (.cells #[.int .i64 0, .int .i64 0, .int .u16 0, .int .u16 0, .int .u16 0, .int .i64 0, .int .i64 0, .int .u16 0, .int .u16 0, .int .u16 0, .int .i64 0, .int .i64 0, .bool false, .slice none 0 0] 30)).heap.size ((w.alloc (.cells #[.int .i64 b, .int .i64 t, j0 j, j1 j, j2 j, j3 j, j4 j, j5 j, j6 j, j7 j, j8 j, j9 j, j10 j, .slice A n c] 30)).alloc (.cells #[.int .i64 0, .int .i64 0, .int .u16 0, .int .u16 0, .int .u16 0, .int .i64 0, .int .i64 0, .int .u16 0, .int .u16 0, .int .u16 0, .int .i64 0, .int .i64 0, .bool false, .slice none 0 0] 30)) wq → (wq.cell? ⟨w.heap.size, 0, none⟩ = some (.int .i64 b) ∧ wq.cell? ⟨w.heap.size, 1, none⟩ = some (.int .i64 t) ∧ wq.cell? ⟨w.heap.size, 2, none⟩ = some (j0 j) ∧ wq.cell? ⟨w.heap.size, 3, none⟩ = some (j1 j) ∧ wq.cell? ⟨w.heap.size, 4, none⟩ = some (j2 j) ∧ wq.cell? ⟨w.heap.size, 5, none⟩ = some (j3 j) ∧ wq.cell? ⟨w.heap.size, 6, none⟩ = some (j4 j) ∧ wq.cell? ⟨w.heap.size, 7, none⟩ = some (j5 j) ∧ wq.cell? ⟨w.heap.size, 8, none⟩ = some (j6 j) ∧ wq.cell? ⟨w.heap.size, 9, none⟩ = some (j7 j) ∧ wq.cell? ⟨w.heap.size, 10, none⟩ = some (j8 j) ∧ wq.cell? ⟨w.heap.size, 11, none⟩ = some (j9 j) ∧ wq.cell? ⟨w.heap.size, 12, none⟩ = some (j10 j) ∧ wq.cell? ⟨w.heap.size, 13, none⟩ = some (.slice A n c)) ∧ (wq.cell? ⟨(w.heap.size + 1), 0, none⟩ = some (.int .i64 0) ∧ wq.cell? ⟨(w.heap.size + 1), 1, none⟩ = some (.int .i64 0) ∧ wq.cell? ⟨(w.heap.size + 1), 2, none⟩ = some (.int .u16 0) ∧ wq.cell? ⟨(w.heap.size + 1), 3, none⟩ = some (.int .u16 0) ∧ wq.cell? ⟨(w.heap.size + 1), 4, none⟩ = some (.int .u16 0) ∧ wq.cell? ⟨(w.heap.size + 1), 5, none⟩ = some (.int .i64 0) ∧ wq.cell? ⟨(w.heap.size + 1), 6, none⟩ = some (.int .i64 0) ∧ wq.cell? ⟨(w.heap.size + 1), 7, none⟩ = some (.int .u16 0) ∧ wq.cell? ⟨(w.heap.size + 1), 8, none⟩ = some (.int .u16 0) ∧ wq.cell? ⟨(w.heap.size + 1), 9, none⟩ = some (.int .u16 0) ∧ wq.cell? ⟨(w.heap.size + 1), 10, none⟩ = some (.int .i64 0) ∧ wq.cell? ⟨(w.heap.size + 1), 11, none⟩ = some (.int .i64 0) ∧ wq.cell? ⟨(w.heap.size + 1), 12, none⟩ = some (.bool false) ∧ wq.cell? ⟨(w.heap.size + 1), 13, none⟩ = some (.slice none 0 0))) := fun wq hq => ⟨blk14 (k0.below hq k0.lt), blk14 (k1.below hq k1.lt)⟩
 have q0 := Below.refl ((w.alloc (.cells #[.int .i64 b, .int .i64 t, j0 j, j1 j, j2 j, j3 j, j4 j, j5 j, j6 j, j7 j, j8 j, j9 j, j10 j, .slice A n c] 30)).alloc (.cells #[.int .i64 0, .int .i64 0, .int .u16 0, .int .u16 0, .int .u16 0, .int .i64 0, .int .i64 0, .int .u16 0, .int .u16 0, .int .u16 0, .int .i64 0, .int .i64 0, .bool false, .slice none 0 0] 30)).heap.size ((w.alloc (.cells #[.int .i64 b, .int .i64 t, j0 j, j1 j, j2 j, j3 j, j4 j, j5 j, j6 j, j7 j, j8 j, j9 j, j10 j, .slice A n c] 30)).alloc (.cells #[.int .i64 0, .int .i64 0, .int .u16 0, .int .u16 0, .int .u16 0, .int .i64 0, .int .i64 0, .int .u16 0, .int .u16 0, .int .u16 0, .int .i64 0, .int .i64 0, .bool false, .slice none 0 0] 30))
 have K0 := Lh k0
 have K1 := Lh k1
 clear hB k0 k1
 go_enter Tryz.func16, Tryz.ntmps16
 go_upto_region 1 with (fail)
 generalize ((w.alloc (.cells #[.int .i64 b, .int .i64 t, j0 j, j1 j, j2 j, j3 j, j4 j, j5 j, j6 j, j7 j, j8 j, j9 j, j10 j, .slice A n c] 30)).alloc (.cells #[.int .i64 0, .int .i64 0, .int .u16 0, .int .u16 0, .int .u16 0, .int .i64 0, .int .i64 0, .int .u16 0, .int .u16 0, .int .u16 0, .int .i64 0, .int .i64 0, .bool false, .slice none 0 0] 30)) = w1 at *
 have HR1 := Lh (HR.out.on (HB.out.mono hBs.out) (Nat.le_trans hBs.out HB.out.size))
 have kk : Blk 52 (w1.alloc (.cells #[] 52)) w1.heap.size [] := heap_alloc_new w1 _
 have q1 := q0.alloc (Nat.le_refl _) (.cells #[] 52)
 have o0 := OwnE.empty (base := w1.heap.size) kk (Nat.le_refl _)
 have RL := HR1.out.on q1 q1.size
 have r0 := HS.out _ q0
 have r1 := HS.out _ q1
 clear kk
 have o0 := Lh o0
 go_wp2_with (at_builtin; with_reducible refine wpList_append_E rfl (.tmp 3) (.tmp 5) rfl w1.heap.size _ 0 0 [] rfl o0.out _ A n c es rfl RL ?hb1 q1.size ?_)
 case hb1 => omega
 intro A' c' y1 hO hY hG
 (try simp only [Nat.zero_add, List.nil_append] at hO)
 (try simp only [Nat.zero_add])
 have q2 := q1.trans hY
 have r2 := HS.out _ q2
 have l0 := K0.out.lt
 have l1 := Lh K1.out.lt
 have hO := Lh hO
 have df0 := fun i => (K0.out.below q2 K0.out.lt).frozen i
 clear RL r0 r1 hG hY o0
 go_upto_region 2 with (fail)
 have k0 : Blk 30 (y1.setCell ⟨w.heap.size, 13, none⟩ (.slice A' n c')) w.heap.size [.int .i64 b, .int .i64 t, j0 j, j1 j, j2 j, j3 j, j4 j, j5 j, j6 j, j7 j, j8 j, j9 j, j10 j, .slice A' n c'] := (K0.out.below q2 K0.out.lt).set_ 13 _
 have k1 : Blk 30 (y1.setCell ⟨w.heap.size, 13, none⟩ (.slice A' n c')) (w.heap.size + 1) [.int .i64 0, .int .i64 0, .int .u16 0, .int .u16 0, .int .u16 0, .int .i64 0, .int .i64 0, .int .u16 0, .int .u16 0, .int .u16 0, .int .i64 0, .int .i64 0, .bool false, .slice none 0 0] := (K1.out.below q2 K1.out.lt).far (p := ⟨w.heap.size, 13, none⟩) (by show w.heap.size + 1 ≠ w.heap.size; omega) _
 have b2 := (HB.out.trans (q2.mono HB.out.size)).setCell (p := ⟨w.heap.size, 13, none⟩) (Nat.le_refl _) (.slice A' n c')
 have o2 : OwnE (y1.setCell ⟨w.heap.size, 13, none⟩ (.slice A' n c')) w1.heap.size (.slice A' n c') es := hO.out.far (p := ⟨w.heap.size, 13, none⟩) l0 (.slice A' n c')
 clear r2 df0
 generalize (y1.setCell ⟨w.heap.size, 13, none⟩ (.slice A' n c')) = y2 at *
 have c14 := blk14 k0
 have c15 := blk14 k1
 have df := fun i => k1.frozen i
 replace k1 := Lh k1
 replace k0 := Lh k0
 replace o2 := Lh o2
 replace b2 := Lh b2
 go_wp2_with fail
 have sF := put14 (.int .i64 b) (.int .i64 t) (j0 j) (j1 j) (j2 j) (j3 j) (j4 j) (j5 j) (j6 j) (j7 j) (j8 j) (j9 j) (j10 j) (.slice A' n c') k1.out
 have bF := below14 (g := w.heap.size + 1) (.int .i64 b) (.int .i64 t) (j0 j) (j1 j) (j2 j) (j3 j) (j4 j) (j5 j) (j6 j) (j7 j) (j8 j) (j9 j) (j10 j) (.slice A' n c') b2.out (by first | omega | simp)
 have oF := own14 (g := w.heap.size + 1) (.int .i64 b) (.int .i64 t) (j0 j) (j1 j) (j2 j) (j3 j) (j4 j) (j5 j) (j6 j) (j7 j) (j8 j) (j9 j) (j10 j) (.slice A' n c') o2.out l1.out
 generalize ((((((((((((((y2.setCell ⟨w.heap.size + 1, 0, none⟩ (.int .i64 b)).setCell ⟨w.heap.size + 1, 1, none⟩ (.int .i64 t)).setCell ⟨w.heap.size + 1, 2, none⟩ (j0 j)).setCell ⟨w.heap.size + 1, 3, none⟩ (j1 j)).setCell ⟨w.heap.size + 1, 4, none⟩ (j2 j)).setCell ⟨w.heap.size + 1, 5, none⟩ (j3 j)).setCell ⟨w.heap.size + 1, 6, none⟩ (j4 j)).setCell ⟨w.heap.size + 1, 7, none⟩ (j5 j)).setCell ⟨w.heap.size + 1, 8, none⟩ (j6 j)).setCell ⟨w.heap.size + 1, 9, none⟩ (j7 j)).setCell ⟨w.heap.size + 1, 10, none⟩ (j8 j)).setCell ⟨w.heap.size + 1, 11, none⟩ (j9 j)).setCell ⟨w.heap.size + 1, 12, none⟩ (j10 j)).setCell ⟨w.heap.size + 1, 13, none⟩ (.slice A' n c')) = wf at *
 (try simp only [Exit.inBlock, Exit.then])
 refine bodyPost_ret (res1 Tryz.results16 rfl (aggL _) (sizeL _) (ld14 sF)) rfl ?_
 exact ⟨A', c', by rfl, oF.more (by have := l1.out; omega), bF⟩
end Go.Proofs.YtegnfkbmlalkeaaGreat.ref12
namespace Go.Proofs.YtegnfkbmlalkeaaGreat.law12
open Go Go.RowKit kit nums cf lg
theorem small_any (A : Option Addr) (n c : Nat) (es : List EnL) (w : World) (B : Nat) (hR : RdE w B A n es) (hn : n ≤ 1000000) : Calls Tryz.prog 102 #[.slice A n c] w fun e w' => ∃ bl, e = .returned (.bool bl) ∧ w = w' := by
 have HR := Lh hR
 clear hR
 go_enter Tryz.func102, Tryz.ntmps102
 go_wp2_with fail
 go_loopw [3] (fun iv wr => ∃ i : Nat, i ≤ n ∧ iv = .int .i64 (i : Int) ∧ wr = w) (fun iv _ => n - (intOf iv).toNat)
 case atStart => exact ⟨0, Nat.zero_le _, rfl, rfl⟩
 case round =>
  obtain ⟨i, hi, rfl, rfl⟩ := hrel
  by_cases hin : i < n
  ·
   obtain ⟨bb, oo, x, rfl, hlt, hx, hA⟩ := HR.out.at_ (j := i) hin
   have c2 := hA 2 _ rfl
   have hin1 : (i : Int) < (n : Int) := by omega
   clear hA hx
   by_cases h2 : x.d.size ≤ 200
   ·
    have h3 : ¬ ((200 : Int) < (x.d.size : Int)) := by omega
    go_wp2_with fail
    go_roundw
    case rel => exact ⟨i + 1, by omega, by go_num, trivial⟩
    case measure => simp [intOf] <;> omega
   ·
    have h3 : (200 : Int) < (x.d.size : Int) := by omega
    go_wp2_with fail
    go_ret
    exact ⟨false, rfl, rfl⟩
  ·
   obtain rfl : i = n := by omega
   go_wp2_with fail
   go_ret
   exact ⟨true, rfl, rfl⟩
theorem light_any (L : LgL) (A : Option Addr) (n c : Nat) (A2 : Option Addr) (n2 c2 : Nat) (es2 : List EnL) (w : World) (B B2 : Nat) (hR : RdE w B A n L.es) (hB : B ≤ w.heap.size) (hE : RdE w B2 A2 n2 es2) (hB2 : B2 ≤ w.heap.size) : Calls Tryz.prog 47 #[lgV L (.slice A n c), .slice A2 n2 c2] w fun e w' => ∃ bl, e = .returned (.bool bl) ∧ Hid (bl = true → n ≤ 60 ∧ n2 ≤ 60) ∧ Below w.heap.size w w' := by
 have HR := Lh hR
 have HE := Lh hE
 have hBs := Lh hB
 have hBt := Lh hB2
 clear hR hE hB hB2
 unfold lgV at *
 obtain ⟨b, t, j, es⟩ := L
 dsimp only at *
 have k0 : Blk 30 (w.alloc (.cells #[.int .i64 b, .int .i64 t, j0 j, j1 j, j2 j, j3 j, j4 j, j5 j, j6 j, j7 j, j8 j, j9 j, j10 j, .slice A n c] 30)) w.heap.size [.int .i64 b, .int .i64 t, j0 j, j1 j, j2 j, j3 j, j4 j, j5 j, j6 j, j7 j, j8 j, j9 j, j10 j, .slice A n c] := (heap_alloc_new w (.cells #[.int .i64 b, .int .i64 t, j0 j, j1 j, j2 j, j3 j, j4 j, j5 j, j6 j, j7 j, j8 j, j9 j, j10 j, .slice A n c] 30))
 have hB : Below w.heap.size w (w.alloc (.cells #[.int .i64 b, .int .i64 t, j0 j, j1 j, j2 j, j3 j, j4 j, j5 j, j6 j, j7 j, j8 j, j9 j, j10 j, .slice A n c] 30)) := ((Below.refl w.heap.size w).alloc (by first | exact Nat.le_refl _ | (simp; done) | (simp; omega)) (.cells #[.int .i64 b, .int .i64 t, j0 j, j1 j, j2 j, j3 j, j4 j, j5 j, j6 j, j7 j, j8 j, j9 j, j10 j, .slice A n c] 30))
 have HB := Lh hB
 have HS : Hid (∀ wq, Below (w.alloc (.cells #[.int .i64 b, .int .i64 t, j0 j, j1 j, j2 j, j3 j, j4 j, j5 j, j6 j, j7 j, j8 j, j9 j, j10 j, .slice A n c] 30)).heap.size (w.alloc (.cells #[.int .i64 b, .int .i64 t, j0 j, j1 j, j2 j, j3 j, j4 j, j5 j, j6 j, j7 j, j8 j, j9 j, j10 j, .slice A n c] 30)) wq → (wq.cell? ⟨w.heap.size, 0, none⟩ = some (.int .i64 b) ∧ wq.cell? ⟨w.heap.size, 1, none⟩ = some (.int .i64 t) ∧ wq.cell? ⟨w.heap.size, 2, none⟩ = some (j0 j) ∧ wq.cell? ⟨w.heap.size, 3, none⟩ = some (j1 j) ∧ wq.cell? ⟨w.heap.size, 4, none⟩ = some (j2 j) ∧ wq.cell? ⟨w.heap.size, 5, none⟩ = some (j3 j) ∧ wq.cell? ⟨w.heap.size, 6, none⟩ = some (j4 j) ∧ wq.cell? ⟨w.heap.size, 7, none⟩ = some (j5 j) ∧ wq.cell? ⟨w.heap.size, 8, none⟩ = some (j6 j) ∧ wq.cell? ⟨w.heap.size, 9, none⟩ = some (j7 j) ∧ wq.cell? ⟨w.heap.size, 10, none⟩ = some (j8 j) ∧ wq.cell? ⟨w.heap.size, 11, none⟩ = some (j9 j) ∧ wq.cell? ⟨w.heap.size, 12, none⟩ = some (j10 j) ∧ wq.cell? ⟨w.heap.size, 13, none⟩ = some (.slice A n c))) := fun wq hq => blk14 (k0.below hq k0.lt)
 have q0 := Below.refl (w.alloc (.cells #[.int .i64 b, .int .i64 t, j0 j, j1 j, j2 j, j3 j, j4 j, j5 j, j6 j, j7 j, j8 j, j9 j, j10 j, .slice A n c] 30)).heap.size (w.alloc (.cells #[.int .i64 b, .int .i64 t, j0 j, j1 j, j2 j, j3 j, j4 j, j5 j, j6 j, j7 j, j8 j, j9 j, j10 j, .slice A n c] 30))
 have K0 := Lh k0
 clear hB k0
 by_cases h1 : n ≤ 60
 ·
  by_cases h2 : n2 ≤ 60
  ·
   have h3 : ¬ ((60 : Int) < (n : Int)) := by omega
   have h4 : ¬ ((60 : Int) < (n2 : Int)) := by omega
   go_enter Tryz.func47, Tryz.ntmps47
   go_upto_region 1 with (fail)
   generalize (w.alloc (.cells #[.int .i64 b, .int .i64 t, j0 j, j1 j, j2 j, j3 j, j4 j, j5 j, j6 j, j7 j, j8 j, j9 j, j10 j, .slice A n c] 30)) = w1 at *
   have HR1 := Lh (HR.out.on (HB.out.mono hBs.out) (Nat.le_trans hBs.out HB.out.size))
   have HE1 := Lh (HE.out.on (HB.out.mono hBt.out) (Nat.le_trans hBt.out HB.out.size))
   have r0 := HS.out _ q0
   go_wp2_with fail
   refine (small_any A n c es w1 w1.heap.size HR1.out (by omega)).mono ?_
   rintro e y1 ⟨bl, rfl, rfl⟩
   cases bl
   ·
    go_wp2_with fail
    go_ret
    first | exact ⟨false, rfl, (Lh (fun h => by cases h)), HB.out⟩ | exact .inl ⟨rfl, Lh trivial, HB.out⟩
   ·
    go_wp2_with fail
    refine (small_any A2 n2 c2 es2 w1 w1.heap.size HE1.out (by omega)).mono ?_
    rintro e y1 ⟨bl, rfl, rfl⟩
    go_wp2_with fail
    go_ret
    exact ⟨bl, by first | rfl | simp, (Lh (fun _ => ⟨h1, h2⟩)), HB.out⟩
  ·
   have h3 : ¬ ((60 : Int) < (n : Int)) := by omega
   have h4 : (60 : Int) < (n2 : Int) := by omega
   clear h1 h2
   go_enter Tryz.func47, Tryz.ntmps47
   go_upto_region 1 with (fail)
   generalize (w.alloc (.cells #[.int .i64 b, .int .i64 t, j0 j, j1 j, j2 j, j3 j, j4 j, j5 j, j6 j, j7 j, j8 j, j9 j, j10 j, .slice A n c] 30)) = w1 at *
   have HR1 := Lh (HR.out.on (HB.out.mono hBs.out) (Nat.le_trans hBs.out HB.out.size))
   have HE1 := Lh (HE.out.on (HB.out.mono hBt.out) (Nat.le_trans hBt.out HB.out.size))
   have r0 := HS.out _ q0
   go_wp2_with fail
   go_ret
   first | exact ⟨false, rfl, (Lh (fun h => by cases h)), HB.out⟩ | exact .inl ⟨rfl, Lh trivial, HB.out⟩
 ·
  have h3 : (60 : Int) < (n : Int) := by omega
  clear h1
  go_enter Tryz.func47, Tryz.ntmps47
  go_upto_region 1 with (fail)
  generalize (w.alloc (.cells #[.int .i64 b, .int .i64 t, j0 j, j1 j, j2 j, j3 j, j4 j, j5 j, j6 j, j7 j, j8 j, j9 j, j10 j, .slice A n c] 30)) = w1 at *
  have HR1 := Lh (HR.out.on (HB.out.mono hBs.out) (Nat.le_trans hBs.out HB.out.size))
  have HE1 := Lh (HE.out.on (HB.out.mono hBt.out) (Nat.le_trans hBt.out HB.out.size))
  have r0 := HS.out _ q0
  go_wp2_with fail
  go_ret
  first | exact ⟨false, rfl, (Lh (fun h => by cases h)), HB.out⟩ | exact .inl ⟨rfl, Lh trivial, HB.out⟩
end Go.Proofs.YtegnfkbmlalkeaaGreat.law12
namespace Go.Proofs.YtegnfkbmlalkeaaGreat.ref12
open Go Go.RowKit kit nums cf lg
theorem app_E {w : World} {base : Nat} (ty : TypeId) {A : Option Addr} {n c : Nat} {es : List EnL} (hown : OwnE w base (.slice A n c) es) {B : Nat} {X : Option Addr} {m xc : Nat} {news : List EnL} (hR : RdE w B X m news) (hb : n + m ≤ 3000000) (hbase : base ≤ w.heap.size) :
  ∃ v w', (Builtin.append_ #[28, 28] ty #[.slice A n c, .slice X m xc]).run Tryz.prog w = .ok v w' ∧ ∃ A' c', v = .slice A' (n + m) c' ∧ OwnE w' base (.slice A' (n + m) c') (es ++ news) ∧ Below base w w' ∧ w.grownBy w' (Value.ownBlock (.slice A n c)) := by
 obtain ⟨A', c', w', h1, h2, h3, h4⟩ := run_append_E w base ty A n c es hown B X m xc news hR hb hbase
 exact ⟨_, w', h1, A', c', rfl, h2, h3, h4⟩
theorem rd_one {w : World} {g : Nat} {x : EnL} (h : Blk 52 w g (enC x)) : RdE w w.heap.size (some ⟨g, 0, none⟩) 1 [x] := ⟨rfl, fun _ => ⟨g, 0, rfl, h.lt, fun i y hy => by
 rcases i with _ | i
 · obtain rfl := Option.some.inj hy; rw [Nat.zero_mul, Nat.add_zero]; exact row_at h
 · simp at hy⟩⟩
end Go.Proofs.YtegnfkbmlalkeaaGreat.ref12
namespace Go.Proofs.YtegnfkbmlalkeaaGreat.ref9
open Go Go.RowKit kit nums se cf
theorem count_any (s : Nat) (w : World) (hs : s < 65536) : Calls Tryz.prog 40 #[.int .u16 (s : Int)] w fun e w' => e = .returned (.int .i64 ((cntF s : Nat) : Int)) ∧ Below w.heap.size w w' := by
 have C := Lh (list_any s w hs)
 have hl := cntF_list s
 have h9 := list_len s
 generalize listF s = l at *
 rw [← hl]
 go_enter Tryz.func40, Tryz.ntmps40
 go_wp2_with fail
 refine C.out.mono ?_
 rintro e w2 ⟨A, c, rfl, hO, hB⟩
 clear hO C
 go_wp2_with fail
 go_ret
 exact ⟨ret_i64 (by rw [hl]), hB⟩
theorem join_any (a b : Nat) (w : World) (ha : a < 65536) (hb : b < 65536) : Calls Tryz.prog 101 #[.int .u16 (a : Int), .int .u16 (b : Int)] w fun e w' => e = .returned (.int .u16 ((joinF a b : Nat) : Int)) ∧ w = w' := by
 have CA := Lh (fun (j : Nat) (hj : j ≤ 9) w => has_any a (j : Int) w ha (by omega) (by omega))
 have CB := Lh (fun (j : Nat) (hj : j ≤ 9) w => has_any b (j : Int) w hb (by omega) (by omega))
 have CW := Lh (fun (z : Nat) (hz : z < 65536) (j : Nat) (hj : j ≤ 9) w => with_any z (j : Int) w hz (by omega) (by omega))
 go_enter Tryz.func101, Tryz.ntmps101
 go_wp2_with fail
 go_loop [5, 6] (fun sv nv => ∃ (j z : Nat), j ≤ 9 ∧ nv = .int .i64 ((j + 1 : Nat) : Int) ∧ sv = .int .u16 (z : Int) ∧ z < 65536 ∧ Hid (z = lowF (a ||| b) j)) (fun _ nv => 10 - (intOf nv).toNat)
 case atStart => exact ⟨0, 0, by omega, rfl, rfl, by omega, by show 0 = _; rw [lowF_zero]⟩
 case round =>
  obtain ⟨j, z, hj, rfl, rfl, hz, HZ⟩ := hrel
  by_cases hlt : j < 9
  ·
   have hA := CA.out (j + 1) (by omega)
   have hB := CB.out (j + 1) (by omega)
   have hW := CW.out z hz (j + 1) (by omega)
   rw [hasF_node (by omega) (by omega)] at hA hB
   have HN : Hid (lowF (a ||| b) (j + 1) = if (a.testBit (j + 1) || b.testBit (j + 1)) = true then withF z ((j + 1 : Nat) : Int) else z) := by
    show _ = _; rw [lowF_succ _ _ hlt, Nat.testBit_or, ← HZ.out]
   have hwl := withF_lt ((j + 1 : Nat) : Int) hz
   have HA := Lh hA
   have HB := Lh hB
   have HW := Lh hW
   generalize a.testBit (j + 1) = ta at *
   generalize b.testBit (j + 1) = tb at *
   generalize withF z ((j + 1 : Nat) : Int) = y at *
   clear hA hB hW CA CB CW HZ
   cases ta
   ·
    cases tb
    ·
     go_wp2_with fail
     refine (HA.out _).mono ?_
     rintro e w2 ⟨rfl, rfl⟩
     go_wp2_with fail
     refine (HB.out _).mono ?_
     rintro e w2 ⟨rfl, rfl⟩
     go_wp2_with fail
     go_round
     case rel => exact ⟨j + 1, z, by omega, by go_num, rfl, hz, by show _ = _; rw [HN.out]; rfl⟩
     case measure => simp [intOf]; omega
    ·
     go_wp2_with fail
     refine (HA.out _).mono ?_
     rintro e w2 ⟨rfl, rfl⟩
     go_wp2_with fail
     refine (HB.out _).mono ?_
     rintro e w2 ⟨rfl, rfl⟩
     go_wp2_with fail
     refine (HW.out _).mono ?_
     rintro e w2 ⟨rfl, rfl⟩
     go_wp2_with fail
     go_round
     case rel => exact ⟨j + 1, y, by omega, by go_num, rfl, hwl, by show _ = _; rw [HN.out]; rfl⟩
     case measure => simp [intOf]; omega
   ·
    go_wp2_with fail
    refine (HA.out _).mono ?_
    rintro e w2 ⟨rfl, rfl⟩
    go_wp2_with fail
    refine (HW.out _).mono ?_
    rintro e w2 ⟨rfl, rfl⟩
    go_wp2_with fail
    go_round
    case rel => exact ⟨j + 1, y, by omega, by go_num, rfl, hwl, by show _ = _; rw [HN.out]; rfl⟩
    case measure => simp [intOf]; omega
  ·
   obtain rfl : j = 9 := by omega
   have HV : Hid (z = joinF a b) := by show _ = _; rw [HZ.out, lowF_all]; rfl
   go_wp2_with fail
   go_ret
   exact ⟨by rw [HV.out]; rfl, rfl⟩
theorem meet_any (a b : Nat) (w : World) (ha : a < 65536) (hb : b < 65536) : Calls Tryz.prog 43 #[.int .u16 (a : Int), .int .u16 (b : Int)] w fun e w' => e = .returned (.int .u16 ((meetF a b : Nat) : Int)) ∧ w = w' := by
 have CA := Lh (fun (j : Nat) (hj : j ≤ 9) w => has_any a (j : Int) w ha (by omega) (by omega))
 have CB := Lh (fun (j : Nat) (hj : j ≤ 9) w => has_any b (j : Int) w hb (by omega) (by omega))
 have CW := Lh (fun (z : Nat) (hz : z < 65536) (j : Nat) (hj : j ≤ 9) w => with_any z (j : Int) w hz (by omega) (by omega))
 go_enter Tryz.func43, Tryz.ntmps43
 go_wp2_with fail
 go_loop [5, 6] (fun sv nv => ∃ (j z : Nat), j ≤ 9 ∧ nv = .int .i64 ((j + 1 : Nat) : Int) ∧ sv = .int .u16 (z : Int) ∧ z < 65536 ∧ Hid (z = lowF (a &&& b) j)) (fun _ nv => 10 - (intOf nv).toNat)
 case atStart => exact ⟨0, 0, by omega, rfl, rfl, by omega, by show 0 = _; rw [lowF_zero]⟩
 case round =>
  obtain ⟨j, z, hj, rfl, rfl, hz, HZ⟩ := hrel
  by_cases hlt : j < 9
  ·
   have hA := CA.out (j + 1) (by omega)
   have hB := CB.out (j + 1) (by omega)
   have hW := CW.out z hz (j + 1) (by omega)
   rw [hasF_node (by omega) (by omega)] at hA hB
   have HN : Hid (lowF (a &&& b) (j + 1) = if (a.testBit (j + 1) && b.testBit (j + 1)) = true then withF z ((j + 1 : Nat) : Int) else z) := by
    show _ = _; rw [lowF_succ _ _ hlt, Nat.testBit_and, ← HZ.out]
   have hwl := withF_lt ((j + 1 : Nat) : Int) hz
   have HA := Lh hA
   have HB := Lh hB
   have HW := Lh hW
   generalize a.testBit (j + 1) = ta at *
   generalize b.testBit (j + 1) = tb at *
   generalize withF z ((j + 1 : Nat) : Int) = y at *
   clear hA hB hW CA CB CW HZ
   cases ta
   ·
    go_wp2_with fail
    refine (HA.out _).mono ?_
    rintro e w2 ⟨rfl, rfl⟩
    go_wp2_with fail
    go_round
    case rel => exact ⟨j + 1, z, by omega, by go_num, rfl, hz, by show _ = _; rw [HN.out]; rfl⟩
    case measure => simp [intOf]; omega
   ·
    cases tb
    ·
     go_wp2_with fail
     refine (HA.out _).mono ?_
     rintro e w2 ⟨rfl, rfl⟩
     go_wp2_with fail
     refine (HB.out _).mono ?_
     rintro e w2 ⟨rfl, rfl⟩
     go_wp2_with fail
     go_round
     case rel => exact ⟨j + 1, z, by omega, by go_num, rfl, hz, by show _ = _; rw [HN.out]; rfl⟩
     case measure => simp [intOf]; omega
    ·
     go_wp2_with fail
     refine (HA.out _).mono ?_
     rintro e w2 ⟨rfl, rfl⟩
     go_wp2_with fail
     refine (HB.out _).mono ?_
     rintro e w2 ⟨rfl, rfl⟩
     go_wp2_with fail
     refine (HW.out _).mono ?_
     rintro e w2 ⟨rfl, rfl⟩
     go_wp2_with fail
     go_round
     case rel => exact ⟨j + 1, y, by omega, by go_num, rfl, hwl, by show _ = _; rw [HN.out]; rfl⟩
     case measure => simp [intOf]; omega
  ·
   obtain rfl : j = 9 := by omega
   have HV : Hid (z = meetF a b) := by show _ = _; rw [HZ.out, lowF_all]; rfl
   go_wp2_with fail
   go_ret
   exact ⟨by rw [HV.out]; rfl, rfl⟩
end Go.Proofs.YtegnfkbmlalkeaaGreat.ref9
namespace Go.Proofs.YtegnfkbmlalkeaaGreat.kit
open Go Go.RowKit nums cf lg
theorem neq_jt (x y : JtL) (w : World) : (binOp .neq 27 (jV x) (jV y)).run Tryz.prog w = .ok (.bool (!decide (x = y))) w := by
 unfold jV j0 j1 j2 j3 j4 j5 j6 j7 j8 j9 j10
 obtain ⟨⟨av, aw, al, ae, ak⟩, ⟨bv, bw, bl, be, bk⟩, tw⟩ := x
 obtain ⟨⟨av2, aw2, al2, ae2, ak2⟩, ⟨bv2, bw2, bl2, be2, bk2⟩, tw2⟩ := y
 dsimp only
 simp only [JtL.mk.injEq, CfL.mk.injEq]
 go_simp
 simp only [Int.natCast_inj]
 rcases Decidable.em (av = av2) with h_av | h_av
 rotate_left
 · rw [if_neg h_av]; simp [h_av]
 rw [if_pos h_av]
 rcases Decidable.em (aw = aw2) with h_aw | h_aw
 rotate_left
 · rw [if_neg h_aw]; simp [h_aw]
 rw [if_pos h_aw]
 rcases Decidable.em (al = al2) with h_al | h_al
 rotate_left
 · rw [if_neg h_al]; simp [h_al]
 rw [if_pos h_al]
 rcases Decidable.em (ae = ae2) with h_ae | h_ae
 rotate_left
 · rw [if_neg h_ae]; simp [h_ae]
 rw [if_pos h_ae]
 rcases Decidable.em (ak = ak2) with h_ak | h_ak
 rotate_left
 · rw [if_neg h_ak]; simp [h_ak]
 rw [if_pos h_ak]
 rcases Decidable.em (bv = bv2) with h_bv | h_bv
 rotate_left
 · rw [if_neg h_bv]; simp [h_bv]
 rw [if_pos h_bv]
 rcases Decidable.em (bw = bw2) with h_bw | h_bw
 rotate_left
 · rw [if_neg h_bw]; simp [h_bw]
 rw [if_pos h_bw]
 rcases Decidable.em (bl = bl2) with h_bl | h_bl
 rotate_left
 · rw [if_neg h_bl]; simp [h_bl]
 rw [if_pos h_bl]
 rcases Decidable.em (be = be2) with h_be | h_be
 rotate_left
 · rw [if_neg h_be]; simp [h_be]
 rw [if_pos h_be]
 rcases Decidable.em (bk = bk2) with h_bk | h_bk
 rotate_left
 · rw [if_neg h_bk]; simp [h_bk]
 rw [if_pos h_bk]
 rcases Decidable.em (tw = tw2) with h_tw | h_tw
 rotate_left
 · rw [if_neg h_tw]; simp [h_tw]
 rw [if_pos h_tw]
 simp [h_av, h_aw, h_al, h_ae, h_ak, h_bv, h_bw, h_bl, h_be, h_bk, h_tw]
theorem neq_en (x y : EnL) (w : World) : (binOp .neq 52 (enV x) (enV y)).run Tryz.prog w = .ok (.bool (!eqE x y)) w := by
 unfold enV j0 j1 j2 j3 j4 j5 j6 j7 j8 j9 j10 eqE
 obtain ⟨t, k, d, ⟨⟨av, aw, al, ae, ak⟩, ⟨bv, bw, bl, be, bk⟩, tw⟩⟩ := x
 obtain ⟨t2, k2, d2, ⟨⟨av2, aw2, al2, ae2, ak2⟩, ⟨bv2, bw2, bl2, be2, bk2⟩, tw2⟩⟩ := y
 dsimp only
 simp only [JtL.mk.injEq, CfL.mk.injEq]
 go_simp
 simp only [Int.natCast_inj]
 rcases Decidable.em (t = t2) with h_t | h_t
 rotate_left
 · rw [if_neg h_t]; simp [h_t]
 rw [if_pos h_t]
 rcases Decidable.em (k = k2) with h_k | h_k
 rotate_left
 · rw [if_neg h_k]; simp [h_k]
 rw [if_pos h_k]
 rcases Decidable.em (d.toList = d2.toList) with h_d | h_d
 rotate_left
 · rw [if_neg h_d]; simp [h_d]
 rw [if_pos h_d]
 rcases Decidable.em (av = av2) with h_av | h_av
 rotate_left
 · rw [if_neg h_av]; simp [h_av]
 rw [if_pos h_av]
 rcases Decidable.em (aw = aw2) with h_aw | h_aw
 rotate_left
 · rw [if_neg h_aw]; simp [h_aw]
 rw [if_pos h_aw]
 rcases Decidable.em (al = al2) with h_al | h_al
 rotate_left
 · rw [if_neg h_al]; simp [h_al]
 rw [if_pos h_al]
 rcases Decidable.em (ae = ae2) with h_ae | h_ae
 rotate_left
 · rw [if_neg h_ae]; simp [h_ae]
 rw [if_pos h_ae]
 rcases Decidable.em (ak = ak2) with h_ak | h_ak
 rotate_left
 · rw [if_neg h_ak]; simp [h_ak]
 rw [if_pos h_ak]
 rcases Decidable.em (bv = bv2) with h_bv | h_bv
 rotate_left
 · rw [if_neg h_bv]; simp [h_bv]
 rw [if_pos h_bv]
 rcases Decidable.em (bw = bw2) with h_bw | h_bw
 rotate_left
 · rw [if_neg h_bw]; simp [h_bw]
 rw [if_pos h_bw]
 rcases Decidable.em (bl = bl2) with h_bl | h_bl
 rotate_left
 · rw [if_neg h_bl]; simp [h_bl]
 rw [if_pos h_bl]
 rcases Decidable.em (be = be2) with h_be | h_be
 rotate_left
 · rw [if_neg h_be]; simp [h_be]
 rw [if_pos h_be]
 rcases Decidable.em (bk = bk2) with h_bk | h_bk
 rotate_left
 · rw [if_neg h_bk]; simp [h_bk]
 rw [if_pos h_bk]
 rcases Decidable.em (tw = tw2) with h_tw | h_tw
 rotate_left
 · rw [if_neg h_tw]; simp [h_tw]
 rw [if_pos h_tw]
 simp [h_t, h_k, h_d, h_av, h_aw, h_al, h_ae, h_ak, h_bv, h_bw, h_bl, h_be, h_bk, h_tw]
end Go.Proofs.YtegnfkbmlalkeaaGreat.kit
namespace Go.Proofs.YtegnfkbmlalkeaaGreat.ref12
open Go Go.RowKit kit nums cf lg
set_option linter.unusedSimpArgs false
theorem rmay_any (L : LgL) (A : Option Addr) (n c : Nat) (w : World) (B : Nat) (hR : RdE w B A n L.es) (hB : B ≤ w.heap.size) (hn : n ≤ 1099511627776) : Calls Tryz.prog 107 #[lgV L (.slice A n c)] w fun e w' => e = .returned (.bool (mayF L)) ∧ Below w.heap.size w w' := by
 have HR := Lh hR
 have hl := hR.1
 have hBs := Lh hB
 have HD : Hid (∀ (q : Int) (i : Nat) (x : EnL), L.es[i]? = some x → mayE q (L.es.drop i) = (withB x.t q && mayE x.t (L.es.drop (i + 1)))) := fun q i x h => mayE_drop h
 have HE : Hid (∀ q, mayE q (L.es.drop n) = true) := fun q => by rw [List.drop_of_length_le (by rw [hl]; exact Nat.le_refl _)]; rfl
 have HZ : Hid (∀ q, mayE q L.es = mayE q (L.es.drop 0)) := fun q => rfl
 have hFr : mayF L = (withB L.b 0 && (withB L.t 0 && mayE (max L.t 1) L.es)) := rfl
 generalize mayF L = RES at *
 clear hR hB hl
 unfold lgV at *
 obtain ⟨b, t, j, es⟩ := L
 dsimp only at *
 have k0 : Blk 30 (w.alloc (.cells #[.int .i64 b, .int .i64 t, j0 j, j1 j, j2 j, j3 j, j4 j, j5 j, j6 j, j7 j, j8 j, j9 j, j10 j, .slice A n c] 30)) w.heap.size [.int .i64 b, .int .i64 t, j0 j, j1 j, j2 j, j3 j, j4 j, j5 j, j6 j, j7 j, j8 j, j9 j, j10 j, .slice A n c] := (heap_alloc_new w (.cells #[.int .i64 b, .int .i64 t, j0 j, j1 j, j2 j, j3 j, j4 j, j5 j, j6 j, j7 j, j8 j, j9 j, j10 j, .slice A n c] 30))
 have hB : Below w.heap.size w (w.alloc (.cells #[.int .i64 b, .int .i64 t, j0 j, j1 j, j2 j, j3 j, j4 j, j5 j, j6 j, j7 j, j8 j, j9 j, j10 j, .slice A n c] 30)) := ((Below.refl w.heap.size w).alloc (by first | exact Nat.le_refl _ | (simp; done) | (simp; omega)) (.cells #[.int .i64 b, .int .i64 t, j0 j, j1 j, j2 j, j3 j, j4 j, j5 j, j6 j, j7 j, j8 j, j9 j, j10 j, .slice A n c] 30))
 have HB := Lh hB
 have HS : Hid (∀ wq, Below (w.alloc (.cells #[.int .i64 b, .int .i64 t, j0 j, j1 j, j2 j, j3 j, j4 j, j5 j, j6 j, j7 j, j8 j, j9 j, j10 j, .slice A n c] 30)).heap.size (w.alloc (.cells #[.int .i64 b, .int .i64 t, j0 j, j1 j, j2 j, j3 j, j4 j, j5 j, j6 j, j7 j, j8 j, j9 j, j10 j, .slice A n c] 30)) wq → (wq.cell? ⟨w.heap.size, 0, none⟩ = some (.int .i64 b) ∧ wq.cell? ⟨w.heap.size, 1, none⟩ = some (.int .i64 t) ∧ wq.cell? ⟨w.heap.size, 2, none⟩ = some (j0 j) ∧ wq.cell? ⟨w.heap.size, 3, none⟩ = some (j1 j) ∧ wq.cell? ⟨w.heap.size, 4, none⟩ = some (j2 j) ∧ wq.cell? ⟨w.heap.size, 5, none⟩ = some (j3 j) ∧ wq.cell? ⟨w.heap.size, 6, none⟩ = some (j4 j) ∧ wq.cell? ⟨w.heap.size, 7, none⟩ = some (j5 j) ∧ wq.cell? ⟨w.heap.size, 8, none⟩ = some (j6 j) ∧ wq.cell? ⟨w.heap.size, 9, none⟩ = some (j7 j) ∧ wq.cell? ⟨w.heap.size, 10, none⟩ = some (j8 j) ∧ wq.cell? ⟨w.heap.size, 11, none⟩ = some (j9 j) ∧ wq.cell? ⟨w.heap.size, 12, none⟩ = some (j10 j) ∧ wq.cell? ⟨w.heap.size, 13, none⟩ = some (.slice A n c))) := fun wq hq => blk14 (k0.below hq k0.lt)
 have q0 := Below.refl (w.alloc (.cells #[.int .i64 b, .int .i64 t, j0 j, j1 j, j2 j, j3 j, j4 j, j5 j, j6 j, j7 j, j8 j, j9 j, j10 j, .slice A n c] 30)).heap.size (w.alloc (.cells #[.int .i64 b, .int .i64 t, j0 j, j1 j, j2 j, j3 j, j4 j, j5 j, j6 j, j7 j, j8 j, j9 j, j10 j, .slice A n c] 30))
 have K0 := Lh k0
 clear hB k0
 by_cases c0 : b < 0
 ·
  have hb : withB b 0 = false := by simp [withB]; omega
  rw [hb] at hFr; simp only [Bool.false_and, Bool.and_false] at hFr
  have HF := Lh hFr
  clear hFr
  go_enter Tryz.func107, Tryz.ntmps107
  go_upto_region 1 with (fail)
  generalize (w.alloc (.cells #[.int .i64 b, .int .i64 t, j0 j, j1 j, j2 j, j3 j, j4 j, j5 j, j6 j, j7 j, j8 j, j9 j, j10 j, .slice A n c] 30)) = w1 at *
  have HR1 := Lh (HR.out.on (HB.out.mono hBs.out) (Nat.le_trans hBs.out HB.out.size))
  have r0 := HS.out _ q0
  go_wp2_with fail
  go_ret
  exact ⟨by rw [HF.out]; rfl, HB.out⟩
 ·
  by_cases c1 : 1099511627776 < b
  ·
   have hb : withB b 0 = false := by simp [withB]; omega
   rw [hb] at hFr; simp only [Bool.false_and, Bool.and_false] at hFr
   have HF := Lh hFr
   clear hFr
   go_enter Tryz.func107, Tryz.ntmps107
   go_upto_region 1 with (fail)
   generalize (w.alloc (.cells #[.int .i64 b, .int .i64 t, j0 j, j1 j, j2 j, j3 j, j4 j, j5 j, j6 j, j7 j, j8 j, j9 j, j10 j, .slice A n c] 30)) = w1 at *
   have HR1 := Lh (HR.out.on (HB.out.mono hBs.out) (Nat.le_trans hBs.out HB.out.size))
   have r0 := HS.out _ q0
   go_wp2_with fail
   go_ret
   exact ⟨by rw [HF.out]; rfl, HB.out⟩
  ·
   by_cases c2 : t < 0
   ·
    have hb : withB t 0 = false := by simp [withB]; omega
    rw [hb] at hFr; simp only [Bool.false_and, Bool.and_false] at hFr
    have HF := Lh hFr
    clear hFr
    go_enter Tryz.func107, Tryz.ntmps107
    go_upto_region 1 with (fail)
    generalize (w.alloc (.cells #[.int .i64 b, .int .i64 t, j0 j, j1 j, j2 j, j3 j, j4 j, j5 j, j6 j, j7 j, j8 j, j9 j, j10 j, .slice A n c] 30)) = w1 at *
    have HR1 := Lh (HR.out.on (HB.out.mono hBs.out) (Nat.le_trans hBs.out HB.out.size))
    have r0 := HS.out _ q0
    go_wp2_with fail
    go_ret
    exact ⟨by rw [HF.out]; rfl, HB.out⟩
   ·
    by_cases c3 : 1099511627776 < t
    ·
     have hb : withB t 0 = false := by simp [withB]; omega
     rw [hb] at hFr; simp only [Bool.false_and, Bool.and_false] at hFr
     have HF := Lh hFr
     clear hFr
     go_enter Tryz.func107, Tryz.ntmps107
     go_upto_region 1 with (fail)
     generalize (w.alloc (.cells #[.int .i64 b, .int .i64 t, j0 j, j1 j, j2 j, j3 j, j4 j, j5 j, j6 j, j7 j, j8 j, j9 j, j10 j, .slice A n c] 30)) = w1 at *
     have HR1 := Lh (HR.out.on (HB.out.mono hBs.out) (Nat.le_trans hBs.out HB.out.size))
     have r0 := HS.out _ q0
     go_wp2_with fail
     go_ret
     exact ⟨by rw [HF.out]; rfl, HB.out⟩
    ·
     rw [show withB b 0 = true by simp [withB]; omega, show withB t 0 = true by simp [withB]; omega, Bool.true_and, Bool.true_and, HZ.out] at hFr
     by_cases c9 : t < 1
     ·
      have c9 : t < 1 := c9
      rw [show max t 1 = 1 by omega] at hFr
      replace hFr := Lh hFr
      clear HZ
      go_enter Tryz.func107, Tryz.ntmps107
      go_upto_region 1 with (fail)
      generalize (w.alloc (.cells #[.int .i64 b, .int .i64 t, j0 j, j1 j, j2 j, j3 j, j4 j, j5 j, j6 j, j7 j, j8 j, j9 j, j10 j, .slice A n c] 30)) = w1 at *
      have HR1 := Lh (HR.out.on (HB.out.mono hBs.out) (Nat.le_trans hBs.out HB.out.size))
      have r0 := HS.out _ q0
      go_wp2_with fail
      go_loopw [3, 4] (fun tv iv wr => ∃ (i : Nat) (q : Int), i ≤ n ∧ tv = .int .i64 q ∧ iv = .int .i64 (i : Int) ∧ Hid (RES = mayE q (es.drop i)) ∧ wr = w1) (fun _ iv _ => n - (intOf iv).toNat)
      case atStart => exact ⟨0, 1, Nat.zero_le _, rfl, rfl, hFr, rfl⟩
      case round =>
       obtain ⟨i, q, hi, rfl, rfl, HG, rfl⟩ := hrel
       by_cases hin : i < n
       ·
        obtain ⟨bb, oo, x, rfl, hlt, hx, hA⟩ := HR1.out.at_ (j := i) hin
        have c14 := (at14 hA).1
        have hDx := Lh (HD.out q i x hx)
        have hin1 : (i : Int) < (n : Int) := by omega
        clear hA hx HD HE
        by_cases d1 : x.t < q
        ·
         have hFr2 : Hid (RES = false) := by show _ = _; rw [HG.out, hDx.out, show withB x.t q = false by simp [withB]; omega]; rfl
         clear HG hDx
         go_wp2_with fail
         go_ret
         exact ⟨by rw [hFr2.out]; rfl, HB.out⟩
        ·
         by_cases d2 : 1099511627776 < x.t
         ·
          have hFr2 : Hid (RES = false) := by show _ = _; rw [HG.out, hDx.out, show withB x.t q = false by simp [withB]; omega]; rfl
          clear HG hDx
          go_wp2_with fail
          go_ret
          exact ⟨by rw [hFr2.out]; rfl, HB.out⟩
         ·
          have hFr2 : Hid (RES = mayE x.t (es.drop (i + 1))) := by show _ = _; rw [HG.out, hDx.out, show withB x.t q = true by simp [withB]; omega]; rfl
          clear HG hDx
          go_wp2_with fail
          go_roundw
          case rel => exact ⟨i + 1, x.t, by omega, rfl, by go_num, hFr2, trivial⟩
          case measure => simp [intOf] <;> omega
       ·
        obtain rfl : i = n := by omega
        have hFr2 : Hid (RES = true) := by show _ = _; rw [HG.out, HE.out]
        clear HG HE HD
        go_wp2_with fail
        go_ret
        exact ⟨by rw [hFr2.out]; rfl, HB.out⟩
     ·
      have c9 : ¬ (t < 1) := c9
      rw [show max t 1 = t by omega] at hFr
      replace hFr := Lh hFr
      clear HZ
      go_enter Tryz.func107, Tryz.ntmps107
      go_upto_region 1 with (fail)
      generalize (w.alloc (.cells #[.int .i64 b, .int .i64 t, j0 j, j1 j, j2 j, j3 j, j4 j, j5 j, j6 j, j7 j, j8 j, j9 j, j10 j, .slice A n c] 30)) = w1 at *
      have HR1 := Lh (HR.out.on (HB.out.mono hBs.out) (Nat.le_trans hBs.out HB.out.size))
      have r0 := HS.out _ q0
      go_wp2_with fail
      go_loopw [3, 4] (fun tv iv wr => ∃ (i : Nat) (q : Int), i ≤ n ∧ tv = .int .i64 q ∧ iv = .int .i64 (i : Int) ∧ Hid (RES = mayE q (es.drop i)) ∧ wr = w1) (fun _ iv _ => n - (intOf iv).toNat)
      case atStart => exact ⟨0, t, Nat.zero_le _, rfl, rfl, hFr, rfl⟩
      case round =>
       obtain ⟨i, q, hi, rfl, rfl, HG, rfl⟩ := hrel
       by_cases hin : i < n
       ·
        obtain ⟨bb, oo, x, rfl, hlt, hx, hA⟩ := HR1.out.at_ (j := i) hin
        have c14 := (at14 hA).1
        have hDx := Lh (HD.out q i x hx)
        have hin1 : (i : Int) < (n : Int) := by omega
        clear hA hx HD HE
        by_cases d1 : x.t < q
        ·
         have hFr2 : Hid (RES = false) := by show _ = _; rw [HG.out, hDx.out, show withB x.t q = false by simp [withB]; omega]; rfl
         clear HG hDx
         go_wp2_with fail
         go_ret
         exact ⟨by rw [hFr2.out]; rfl, HB.out⟩
        ·
         by_cases d2 : 1099511627776 < x.t
         ·
          have hFr2 : Hid (RES = false) := by show _ = _; rw [HG.out, hDx.out, show withB x.t q = false by simp [withB]; omega]; rfl
          clear HG hDx
          go_wp2_with fail
          go_ret
          exact ⟨by rw [hFr2.out]; rfl, HB.out⟩
         ·
          have hFr2 : Hid (RES = mayE x.t (es.drop (i + 1))) := by show _ = _; rw [HG.out, hDx.out, show withB x.t q = true by simp [withB]; omega]; rfl
          clear HG hDx
          go_wp2_with fail
          go_roundw
          case rel => exact ⟨i + 1, x.t, by omega, rfl, by go_num, hFr2, trivial⟩
          case measure => simp [intOf] <;> omega
       ·
        obtain rfl : i = n := by omega
        have hFr2 : Hid (RES = true) := by show _ = _; rw [HG.out, HE.out]
        clear HG HE HD
        go_wp2_with fail
        go_ret
        exact ⟨by rw [hFr2.out]; rfl, HB.out⟩
end Go.Proofs.YtegnfkbmlalkeaaGreat.ref12
namespace Go.Proofs.YtegnfkbmlalkeaaGreat.ref12
open Go Go.RowKit kit nums cf lg
theorem ralike_any (A : Option Addr) (n c : Nat) (es : List EnL) (A2 : Option Addr) (n2 c2 : Nat) (es2 : List EnL) (w : World) (B B2 : Nat) (hR : RdE w B A n es) (hB : B ≤ w.heap.size) (hR2 : RdE w B2 A2 n2 es2) (hB2 : B2 ≤ w.heap.size) (hn : n ≤ 1099511627776) : Calls Tryz.prog 73 #[.slice A n c, .slice A2 n2 c2] w fun e w' => e = .returned (.bool (eqEs es es2)) ∧ Below w.heap.size w w' := by
 have HR := Lh hR
 have HR2 := Lh hR2
 have HE : Hid (n ≠ n2 → eqEs es es2 = false) := fun h => eqEs_len (by rw [hR.1, hR2.1]; exact h)
 have HD : Hid (∀ (i : Nat) (x y : EnL), es[i]? = some x → es2[i]? = some y → eqEs (es.drop i) (es2.drop i) = (eqE x y && eqEs (es.drop (i + 1)) (es2.drop (i + 1)))) := fun i x y h1 h2 => eqEs_drop h1 h2
 have HZ : Hid (n = n2 → eqEs (es.drop n) (es2.drop n) = true) := fun h => by rw [List.drop_of_length_le (by rw [hR.1]; exact Nat.le_refl _), List.drop_of_length_le (by rw [hR2.1, h]; exact Nat.le_refl _)]; rfl
 have H0 : Hid (eqEs es es2 = eqEs (es.drop 0) (es2.drop 0)) := rfl
 clear hR hR2
 generalize eqEs es es2 = RES at *
 by_cases hne : n = n2
 ·
  subst hne
  have HZ2 := Lh (HZ.out rfl)
  clear HZ HE
  go_enter Tryz.func73, Tryz.ntmps73
  go_wp2_with fail
  go_loopw [5] (fun iv wr => ∃ i : Nat, i ≤ n ∧ iv = .int .i64 (i : Int) ∧ Hid (RES = eqEs (es.drop i) (es2.drop i)) ∧ Hid (Below w.heap.size w wr)) (fun iv _ => n - (intOf iv).toNat)
  case atStart => exact ⟨0, Nat.zero_le _, rfl, H0, Lh (Below.refl _ _)⟩
  case round =>
   obtain ⟨i, hi, rfl, HG, HBr⟩ := hrel
   by_cases hin : i < n
   ·
    obtain ⟨b1, o1, x, rfl, hl1, hx, hA⟩ := (HR.out.on (HBr.out.mono hB) (Nat.le_refl _)).at_ (j := i) hin
    obtain ⟨b2, o2, y, rfl, hl2, hy, hA2⟩ := (HR2.out.on (HBr.out.mono hB2) (Nat.le_refl _)).at_ (j := i) hin
    have c1 := at14 hA
    have c2 := at14 hA2
    have hDx := Lh (HD.out i x y hx hy)
    have hin1 : (i : Int) < (n : Int) := by omega
    have hq := fun w => neq_en x y w
    unfold enV at hq
    clear hA hA2 hx hy HD HZ2
    rcases hxy : eqE x y with _ | _
    ·
     have hFr2 : Hid (RES = false) := by show _ = _; rw [HG.out, hDx.out, hxy]; rfl
     rw [hxy] at hq
     clear HG hDx hxy
     go_wp2_with fail
     go_quiet (fail)
     go_wp2_with fail
     go_ret
     exact ⟨by rw [hFr2.out]; rfl, below_drewN HBr.out _⟩
    ·
     have hFr2 : Hid (RES = eqEs (es.drop (i + 1)) (es2.drop (i + 1))) := by show _ = _; rw [HG.out, hDx.out, hxy]; rfl
     rw [hxy] at hq
     clear HG hDx hxy
     go_wp2_with fail
     go_quiet (fail)
     go_wp2_with fail
     go_roundw
     case rel => exact ⟨i + 1, by omega, by go_num, hFr2, Lh (below_drewN HBr.out _)⟩
     case measure => simp [intOf] <;> omega
   ·
    obtain rfl : i = n := by omega
    have hFr2 : Hid (RES = true) := by show _ = _; rw [HG.out, HZ2.out]
    clear HG HZ2 HD
    go_wp2_with fail
    go_ret
    exact ⟨by rw [hFr2.out]; rfl, HBr.out⟩
 ·
  have HF := Lh (HE.out hne)
  clear HE HZ HD H0
  have hne2 : ((n : Int) != (n2 : Int)) = true := by rw [bne_iff_ne]; omega
  go_enter Tryz.func73, Tryz.ntmps73
  go_wp2_with fail
  go_ret
  exact ⟨by rw [HF.out]; rfl, Below.refl _ _⟩
end Go.Proofs.YtegnfkbmlalkeaaGreat.ref12
namespace Go.Proofs.YtegnfkbmlalkeaaGreat.ref12
open Go Go.RowKit kit nums cf lg
theorem rsame_any (L M : LgL) (A : Option Addr) (n c : Nat) (A2 : Option Addr) (n2 c2 : Nat) (w : World) (B B2 : Nat) (hR : RdE w B A n L.es) (hB : B ≤ w.heap.size) (hR2 : RdE w B2 A2 n2 M.es) (hB2 : B2 ≤ w.heap.size) (hn : n ≤ 1099511627776) : Calls Tryz.prog 21 #[lgV L (.slice A n c), lgV M (.slice A2 n2 c2)] w fun e w' => e = .returned (.bool (eqL L M)) ∧ Below w.heap.size w w' := by
 have HR := Lh hR
 have HR2 := Lh hR2
 have hBs := Lh hB
 have hBt := Lh hB2
 have HQ : Hid (eqL L M = (L.b == M.b && (L.t == M.t && (decide (L.j = M.j) && eqEs L.es M.es)))) := rfl
 generalize eqL L M = RES at *
 have hq := fun w => neq_jt L.j M.j w
 unfold jV at hq
 clear hR hR2 hB hB2
 unfold lgV at *
 obtain ⟨b, t, j, es⟩ := L
 obtain ⟨b2, t2, m, es2⟩ := M
 dsimp only at *
 have k0 : Blk 30 (w.alloc (.cells #[.int .i64 b, .int .i64 t, j0 j, j1 j, j2 j, j3 j, j4 j, j5 j, j6 j, j7 j, j8 j, j9 j, j10 j, .slice A n c] 30)) w.heap.size [.int .i64 b, .int .i64 t, j0 j, j1 j, j2 j, j3 j, j4 j, j5 j, j6 j, j7 j, j8 j, j9 j, j10 j, .slice A n c] := (heap_alloc_new w (.cells #[.int .i64 b, .int .i64 t, j0 j, j1 j, j2 j, j3 j, j4 j, j5 j, j6 j, j7 j, j8 j, j9 j, j10 j, .slice A n c] 30))
 replace k0 : Blk 30 ((w.alloc (.cells #[.int .i64 b, .int .i64 t, j0 j, j1 j, j2 j, j3 j, j4 j, j5 j, j6 j, j7 j, j8 j, j9 j, j10 j, .slice A n c] 30)).alloc (.cells #[.int .i64 b2, .int .i64 t2, j0 m, j1 m, j2 m, j3 m, j4 m, j5 m, j6 m, j7 m, j8 m, j9 m, j10 m, (.slice A2 n2 c2)] 30)) w.heap.size [.int .i64 b, .int .i64 t, j0 j, j1 j, j2 j, j3 j, j4 j, j5 j, j6 j, j7 j, j8 j, j9 j, j10 j, .slice A n c] := k0.alloc _
 have k1 : Blk 30 ((w.alloc (.cells #[.int .i64 b, .int .i64 t, j0 j, j1 j, j2 j, j3 j, j4 j, j5 j, j6 j, j7 j, j8 j, j9 j, j10 j, .slice A n c] 30)).alloc (.cells #[.int .i64 b2, .int .i64 t2, j0 m, j1 m, j2 m, j3 m, j4 m, j5 m, j6 m, j7 m, j8 m, j9 m, j10 m, (.slice A2 n2 c2)] 30)) (w.heap.size + 1) [.int .i64 b2, .int .i64 t2, j0 m, j1 m, j2 m, j3 m, j4 m, j5 m, j6 m, j7 m, j8 m, j9 m, j10 m, (.slice A2 n2 c2)] := (by have h := heap_alloc_new (w.alloc (.cells #[.int .i64 b, .int .i64 t, j0 j, j1 j, j2 j, j3 j, j4 j, j5 j, j6 j, j7 j, j8 j, j9 j, j10 j, .slice A n c] 30)) (.cells #[.int .i64 b2, .int .i64 t2, j0 m, j1 m, j2 m, j3 m, j4 m, j5 m, j6 m, j7 m, j8 m, j9 m, j10 m, (.slice A2 n2 c2)] 30); rwa [show (w.alloc (.cells #[.int .i64 b, .int .i64 t, j0 j, j1 j, j2 j, j3 j, j4 j, j5 j, j6 j, j7 j, j8 j, j9 j, j10 j, .slice A n c] 30)).heap.size = w.heap.size + 1 by simp] at h)
 have hB : Below w.heap.size w ((w.alloc (.cells #[.int .i64 b, .int .i64 t, j0 j, j1 j, j2 j, j3 j, j4 j, j5 j, j6 j, j7 j, j8 j, j9 j, j10 j, .slice A n c] 30)).alloc (.cells #[.int .i64 b2, .int .i64 t2, j0 m, j1 m, j2 m, j3 m, j4 m, j5 m, j6 m, j7 m, j8 m, j9 m, j10 m, (.slice A2 n2 c2)] 30)) := (((Below.refl w.heap.size w).alloc (by first | exact Nat.le_refl _ | (simp; done) | (simp; omega)) (.cells #[.int .i64 b, .int .i64 t, j0 j, j1 j, j2 j, j3 j, j4 j, j5 j, j6 j, j7 j, j8 j, j9 j, j10 j, .slice A n c] 30)).alloc (by first | exact Nat.le_refl _ | (simp; done) | (simp; omega)) (.cells #[.int .i64 b2, .int .i64 t2, j0 m, j1 m, j2 m, j3 m, j4 m, j5 m, j6 m, j7 m, j8 m, j9 m, j10 m, (.slice A2 n2 c2)] 30))
 have HB := Lh hB
 have HS : Hid (∀ wq, Below ((w.alloc (.cells #[.int .i64 b, .int .i64 t, j0 j, j1 j, j2 j, j3 j, j4 j, j5 j, j6 j, j7 j, j8 j, j9 j, j10 j, .slice A n c] 30)).alloc (.cells #[.int .i64 b2, .int .i64 t2, j0 m, j1 m, j2 m, j3 m, j4 m, j5 m, j6 m, j7 m, j8 m, j9 m, j10 m, (.slice A2 n2 c2)] 30)).heap.size ((w.alloc (.cells #[.int .i64 b, .int .i64 t, j0 j, j1 j, j2 j, j3 j, j4 j, j5 j, j6 j, j7 j, j8 j, j9 j, j10 j, .slice A n c] 30)).alloc (.cells #[.int .i64 b2, .int .i64 t2, j0 m, j1 m, j2 m, j3 m, j4 m, j5 m, j6 m, j7 m, j8 m, j9 m, j10 m, (.slice A2 n2 c2)] 30)) wq → (wq.cell? ⟨w.heap.size, 0, none⟩ = some (.int .i64 b) ∧ wq.cell? ⟨w.heap.size, 1, none⟩ = some (.int .i64 t) ∧ wq.cell? ⟨w.heap.size, 2, none⟩ = some (j0 j) ∧ wq.cell? ⟨w.heap.size, 3, none⟩ = some (j1 j) ∧ wq.cell? ⟨w.heap.size, 4, none⟩ = some (j2 j) ∧ wq.cell? ⟨w.heap.size, 5, none⟩ = some (j3 j) ∧ wq.cell? ⟨w.heap.size, 6, none⟩ = some (j4 j) ∧ wq.cell? ⟨w.heap.size, 7, none⟩ = some (j5 j) ∧ wq.cell? ⟨w.heap.size, 8, none⟩ = some (j6 j) ∧ wq.cell? ⟨w.heap.size, 9, none⟩ = some (j7 j) ∧ wq.cell? ⟨w.heap.size, 10, none⟩ = some (j8 j) ∧ wq.cell? ⟨w.heap.size, 11, none⟩ = some (j9 j) ∧ wq.cell? ⟨w.heap.size, 12, none⟩ = some (j10 j) ∧ wq.cell? ⟨w.heap.size, 13, none⟩ = some (.slice A n c)) ∧ (wq.cell? ⟨(w.heap.size + 1), 0, none⟩ = some (.int .i64 b2) ∧ wq.cell? ⟨(w.heap.size + 1), 1, none⟩ = some (.int .i64 t2) ∧ wq.cell? ⟨(w.heap.size + 1), 2, none⟩ = some (j0 m) ∧ wq.cell? ⟨(w.heap.size + 1), 3, none⟩ = some (j1 m) ∧ wq.cell? ⟨(w.heap.size + 1), 4, none⟩ = some (j2 m) ∧ wq.cell? ⟨(w.heap.size + 1), 5, none⟩ = some (j3 m) ∧ wq.cell? ⟨(w.heap.size + 1), 6, none⟩ = some (j4 m) ∧ wq.cell? ⟨(w.heap.size + 1), 7, none⟩ = some (j5 m) ∧ wq.cell? ⟨(w.heap.size + 1), 8, none⟩ = some (j6 m) ∧ wq.cell? ⟨(w.heap.size + 1), 9, none⟩ = some (j7 m) ∧ wq.cell? ⟨(w.heap.size + 1), 10, none⟩ = some (j8 m) ∧ wq.cell? ⟨(w.heap.size + 1), 11, none⟩ = some (j9 m) ∧ wq.cell? ⟨(w.heap.size + 1), 12, none⟩ = some (j10 m) ∧ wq.cell? ⟨(w.heap.size + 1), 13, none⟩ = some ((.slice A2 n2 c2)))) := fun wq hq => ⟨blk14 (k0.below hq k0.lt), blk14 (k1.below hq k1.lt)⟩
 have q0 := Below.refl ((w.alloc (.cells #[.int .i64 b, .int .i64 t, j0 j, j1 j, j2 j, j3 j, j4 j, j5 j, j6 j, j7 j, j8 j, j9 j, j10 j, .slice A n c] 30)).alloc (.cells #[.int .i64 b2, .int .i64 t2, j0 m, j1 m, j2 m, j3 m, j4 m, j5 m, j6 m, j7 m, j8 m, j9 m, j10 m, (.slice A2 n2 c2)] 30)).heap.size ((w.alloc (.cells #[.int .i64 b, .int .i64 t, j0 j, j1 j, j2 j, j3 j, j4 j, j5 j, j6 j, j7 j, j8 j, j9 j, j10 j, .slice A n c] 30)).alloc (.cells #[.int .i64 b2, .int .i64 t2, j0 m, j1 m, j2 m, j3 m, j4 m, j5 m, j6 m, j7 m, j8 m, j9 m, j10 m, (.slice A2 n2 c2)] 30))
 have K0 := Lh k0
 have K1 := Lh k1
 clear hB k0 k1
 by_cases e0 : b = b2
 rotate_left
 ·
  have HF : Hid (RES = false) := by show _ = _; rw [HQ.out]; simp [e0]
  have eb : (b == b2) = false := by simpa using e0
  go_enter Tryz.func21, Tryz.ntmps21
  go_upto_region 1 with (fail)
  generalize ((w.alloc (.cells #[.int .i64 b, .int .i64 t, j0 j, j1 j, j2 j, j3 j, j4 j, j5 j, j6 j, j7 j, j8 j, j9 j, j10 j, .slice A n c] 30)).alloc (.cells #[.int .i64 b2, .int .i64 t2, j0 m, j1 m, j2 m, j3 m, j4 m, j5 m, j6 m, j7 m, j8 m, j9 m, j10 m, (.slice A2 n2 c2)] 30)) = w1 at *
  have r0 := HS.out _ q0
  go_wp2_with fail
  go_ret
  exact ⟨by rw [HF.out]; rfl, HB.out⟩
 subst e0
 by_cases e1 : t = t2
 rotate_left
 ·
  have HF : Hid (RES = false) := by show _ = _; rw [HQ.out]; simp [e1]
  have eb : (t == t2) = false := by simpa using e1
  go_enter Tryz.func21, Tryz.ntmps21
  go_upto_region 1 with (fail)
  generalize ((w.alloc (.cells #[.int .i64 b, .int .i64 t, j0 j, j1 j, j2 j, j3 j, j4 j, j5 j, j6 j, j7 j, j8 j, j9 j, j10 j, .slice A n c] 30)).alloc (.cells #[.int .i64 b, .int .i64 t2, j0 m, j1 m, j2 m, j3 m, j4 m, j5 m, j6 m, j7 m, j8 m, j9 m, j10 m, (.slice A2 n2 c2)] 30)) = w1 at *
  have r0 := HS.out _ q0
  go_wp2_with fail
  go_ret
  exact ⟨by rw [HF.out]; rfl, HB.out⟩
 subst e1
 by_cases e2 : j = m
 rotate_left
 ·
  have HF : Hid (RES = false) := by show _ = _; rw [HQ.out]; simp [e2]
  rw [decide_eq_false e2] at hq
  go_enter Tryz.func21, Tryz.ntmps21
  go_upto_region 1 with (fail)
  generalize ((w.alloc (.cells #[.int .i64 b, .int .i64 t, j0 j, j1 j, j2 j, j3 j, j4 j, j5 j, j6 j, j7 j, j8 j, j9 j, j10 j, .slice A n c] 30)).alloc (.cells #[.int .i64 b, .int .i64 t, j0 m, j1 m, j2 m, j3 m, j4 m, j5 m, j6 m, j7 m, j8 m, j9 m, j10 m, (.slice A2 n2 c2)] 30)) = w1 at *
  have r0 := HS.out _ q0
  go_wp2_with fail
  go_ret
  exact ⟨by rw [HF.out]; rfl, HB.out⟩
 have HF : Hid (RES = eqEs es es2) := by show _ = _; rw [HQ.out]; simp [e2]
 subst e2
 rw [decide_eq_true rfl] at hq
 go_enter Tryz.func21, Tryz.ntmps21
 go_upto_region 1 with (fail)
 generalize ((w.alloc (.cells #[.int .i64 b, .int .i64 t, j0 j, j1 j, j2 j, j3 j, j4 j, j5 j, j6 j, j7 j, j8 j, j9 j, j10 j, .slice A n c] 30)).alloc (.cells #[.int .i64 b, .int .i64 t, j0 j, j1 j, j2 j, j3 j, j4 j, j5 j, j6 j, j7 j, j8 j, j9 j, j10 j, (.slice A2 n2 c2)] 30)) = w1 at *
 have r0 := HS.out _ q0
 have CA := Lh (fun w' (hb : Below w1.heap.size w1 w') => ralike_any A n c es A2 n2 c2 es2 w' w1.heap.size w1.heap.size ((HR.out.on (HB.out.mono hBs.out) (Nat.le_trans hBs.out HB.out.size)).below hb) hb.size ((HR2.out.on (HB.out.mono hBt.out) (Nat.le_trans hBt.out HB.out.size)).below hb) hb.size hn)
 go_wp2_with fail
 refine (CA.out _ q0).mono ?_
 rintro e y1 ⟨rfl, hY1⟩
 have q1 := q0.trans (hY1.mono q0.size)
 clear r0
 have r1 := HS.out _ q1
 go_wp2_with fail
 go_ret
 exact ⟨by rw [HF.out]; rfl, HB.out.trans (q1.mono HB.out.size)⟩
end Go.Proofs.YtegnfkbmlalkeaaGreat.ref12
namespace Go.Proofs.YtegnfkbmlalkeaaGreat.frame
open Go Go.ChangeShapes Go.WideShapes Go.ChangeAt Go.RowKit kit nums cf lg
theorem long4 {α : Type} (l : List α) (h : l.length = 4) : ∃ a0 a1 a2 a3, l = [a0, a1, a2, a3] := by
 match l, h with
 | [a0, a1, a2, a3], _ => exact ⟨a0, a1, a2, a3, rfl⟩
theorem long14 {α : Type} (l : List α) (h : l.length = 14) : ∃ a0 a1 a2 a3 a4 a5 a6 a7 a8 a9 a10 a11 a12 a13, l = [a0, a1, a2, a3, a4, a5, a6, a7, a8, a9, a10, a11, a12, a13] := by
 match l, h with
 | [a0, a1, a2, a3, a4, a5, a6, a7, a8, a9, a10, a11, a12, a13], _ => exact ⟨a0, a1, a2, a3, a4, a5, a6, a7, a8, a9, a10, a11, a12, a13, rfl⟩
theorem textc_of_trod {H : Type} {enc : TypeId × Value → H} {W : World} {n : Nat} {v : Value} {y : DataW H × List MemPlace} (h : DataW.trod enc Tryz.prog W 0 (fun _ => true) true n 9 [v] = some y) : ∃ z, v = .string z := by
 obtain ⟨T, h2, _, hsz⟩ := DataW.trod_string Tryz.underlying9 h
 simp at h2
 exact ⟨T, h2⟩
end Go.Proofs.YtegnfkbmlalkeaaGreat.frame
