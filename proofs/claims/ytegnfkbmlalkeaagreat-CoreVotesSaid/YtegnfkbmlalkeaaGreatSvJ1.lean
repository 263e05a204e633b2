/- How entries, slices of entries, and logs, that come in read, in the words of the kit (stage 12). No condition. -/
import Derived.Laws.Tables
import Derived.Laws.MakeOwn
import Derived.Laws.AppendOwn
import Derived.Deep.RegionHeld3
import Derived.Deep.Cut
import Derived.Lib.Hide
import Derived.BigQuiet
import Derived.Laws.StructEq
import Derived.Test.YtegnfkbmlalkeaaGreatSvKitLg
import Derived.Test.YtegnfkbmlalkeaaGreatSvJ0
import Derived.Test.YtegnfkbmlalkeaaGreatSvRef10
import Derived.Test.YtegnfkbmlalkeaaGreatSvConfI
namespace Go.Proofs.YtegnfkbmlalkeaaGreat.kit
open Go Go.RowKit Go.Proofs.YtegnfkbmlalkeaaGreat.nums
set_option linter.unusedVariables false
structure Put (w w' : World) (g : Nat) : Prop where
 other : ∀ q, q ≠ g → w'.heap[q]? = w.heap[q]?
 below : ∀ B w0, Below B w0 w → B ≤ g → Below B w0 w'
 size : w'.heap.size = w.heap.size
theorem Blk.put {w w' : World} {g q : Nat} {E : TypeId} {cs : List Value} (h : Blk E w q cs) (hp : Put w w' g) (hq : q ≠ g) : Blk E w' q cs := (hp.other q hq).trans h
theorem put_setRow {w : World} {g : Nat} {old : List Value} {E : TypeId} (hK : Blk E w g old) (cells : Array Value) : Blk E (w.setRow g cells) g cells.toList ∧ Put w (w.setRow g cells) g := by
 refine ⟨?_, ⟨fun q hq => setRow_other w g q cells hq, fun B w0 hb hB => below_setRow hb hB cells, by simp [World.setRow]⟩⟩
 have := setRow_heap w g old.toArray cells E (0, 0) hK
 unfold Blk
 rw [this]
section
variable {P : Program} {w : World} {ops : Array Oper} {rest : List Oper} {o : Oper} {a : Act} {Q : Exit → Act → World → Prop}
theorem wpList_st (hgd : o.guard = none) (T : TypeId) (p v : Operand) (ho : o.op = .store T p v) (g : Nat) (cells : Array Value) (old : List Value) (E : TypeId) (hp : a.eval p = .pointer (some ⟨g, 0, none⟩)) (hv : a.eval v = .agg cells) (hK : Blk E w g old)
   (hi : (P.info? T).map (·.size) = some cells.size) (hl : old.length = cells.size) (h1 : cells.toList.all (·.oneCell') = true)
   (h : ∀ w', Blk E w' g cells.toList → Put w w' g → wpList P ops Q rest (a.put o.dst undef) w') : wpList P ops Q (o :: rest) a w := by
 refine wpList_plain hgd fun K hK' => ?_
 have hrun := run_storeVar_row (P := P) w g E T old.toArray cells hK hi (by simpa using hl) (Array.all_eq_true_iff_forall_mem.2 (fun u hu => List.all_eq_true.1 h1 u (by simpa using hu)))
 obtain ⟨k1, k2⟩ := put_setRow hK cells
 unfold Oper.wp execOp
 simp only [ho, hp, hv, Instr.storeAt, Instr.sureAddr, Sem.run_bind, Sem.run_pure, Result.andThen_ok, hrun]
 exact hK' _ _ (h _ k1 k2)
theorem wpList_al (hgd : o.guard = none) (T : TypeId) (ho : o.op = .alloc T) (z : Value) (hz : (P.info? T).map (·.zero) = some (some z)) (cells : List Value) (hc : z.cells.toList = cells)
   (h : ∀ w', Blk T w' w.heap.size cells → Below w.heap.size w w' → Hid (w'.heap.size = w.heap.size + 1) → wpList P ops Q rest (a.put o.dst (.pointer (some ⟨w.heap.size, 0, none⟩))) w') : wpList P ops Q (o :: rest) a w := by
 subst hc
 refine wpList_plain hgd fun K hK' => ?_
 cases hq : P.info? T with
 | none => simp [hq] at hz
 | some i =>
   have hz' : i.zero = some z := by simpa [hq] using hz
   unfold Oper.wp execOp
   simp [ho, Instr.alloc, zeroValue, typeInfo, hq, hz', newVar, newRow, Sem.run_bind, Sem.run_pure]
   refine hK' _ _ (h _ (heap_alloc_new w _) ((Below.refl _ _).alloc (Nat.le_refl _) _) (by show (w.heap.push _).size = _; simp))
theorem wpList_ldw (hw : Region.wanted o (yielded ops a.tmps) = true) (T : TypeId) (p : Operand) (ho : o.op = .load T p) (g : Nat) (cells : List Value) (E : TypeId) (hp : a.eval p = .pointer (some ⟨g, 0, none⟩)) (hK : Blk E w g cells)
   (ha : (isAgg T).run P w = .ok true w) (hs : (sizeOf T).run P w = .ok cells.length w) (h : wpList P ops Q rest (a.put o.dst (.agg cells.toArray)) w) : wpList P ops Q (o :: rest) a w := by
 have hl := run_loadCells_list (P := P) w ⟨g, 0, none⟩ cells (fun j v hv => by rw [Addr.add_lit, Nat.zero_add, hK.cell]; exact hv)
 simp only [wpList, hw, if_true]
 left
 unfold Oper.wp execOp
 simp only [ho, hp, Instr.loadAt, Instr.sureAddr, loadVar, Sem.run_bind, Sem.run_pure, Result.andThen_ok, ha, hs, hl, if_true]
 exact h
theorem run_ldv {T : TypeId} {p : Operand} {g : Nat} {cells : List Value} {E : TypeId} (ho : o.op = .load T p) (hp : a.eval p = .pointer (some ⟨g, 0, none⟩)) (hK : Blk E w g cells)
   (ha : (isAgg T).run P w = .ok true w) (hs : (sizeOf T).run P w = .ok cells.length w) : (execOp a.eval o).run P w = .ok (.value (.agg cells.toArray)) w := by
 have hl := run_loadCells_list (P := P) w ⟨g, 0, none⟩ cells (fun j v hv => by rw [Addr.add_lit, Nat.zero_add, hK.cell]; exact hv)
 unfold execOp
 simp only [ho, hp, Instr.loadAt, Instr.sureAddr, loadVar, Sem.run_bind, Sem.run_pure, Result.andThen_ok, ha, hs, hl, if_true]
end
def zLv : Value := .agg #[.int .i64 0, .int .i64 0, .int .u16 0, .int .u16 0, .int .u16 0, .int .i64 0, .int .i64 0, .int .u16 0, .int .u16 0, .int .u16 0, .int .i64 0, .int .i64 0, .bool false, .slice none 0 0]
theorem zeroLv : (Tryz.prog.info? 30).map (·.zero) = some (some zLv) := by kernel_rfl
theorem sizeLv : (Tryz.prog.info? 30).map (·.size) = some 14 := by kernel_rfl
def zLc : List Value := [.int .i64 0, .int .i64 0, .int .u16 0, .int .u16 0, .int .u16 0, .int .i64 0, .int .i64 0, .int .u16 0, .int .u16 0, .int .u16 0, .int .i64 0, .int .i64 0, .bool false, .slice none 0 0]
theorem zLv_cells : zLv.cells.toList = zLc := rfl
end Go.Proofs.YtegnfkbmlalkeaaGreat.kit
namespace Go.Proofs.YtegnfkbmlalkeaaGreat.kit
open Go Go.RowKit Go.Proofs.YtegnfkbmlalkeaaGreat.nums Go.Proofs.YtegnfkbmlalkeaaGreat.cf Go.Proofs.YtegnfkbmlalkeaaGreat.lg
set_option linter.unusedVariables false
theorem wrap_sm {x : Int} (h1 : -9223372036854775808 ≤ x) (h2 : x ≤ 9223372036854775807) : IntKind.i64.wrap x = x := by
 rw [IntKind.wrap_i64]; omega
theorem sizeEv : (Tryz.prog.info? 52).map (·.size) = some 14 := by kernel_rfl
theorem lg_one (L : LgL) {A : Option Addr} {n c : Nat} : (lgC L (.slice A n c)).all (·.oneCell') = true := rfl
theorem en_all (x : EnL) : (enC x).all (·.oneCell') = true := rfl
section
variable {P : Program} {w : World} {ops : Array Oper} {rest : List Oper} {o : Oper} {a : Act} {Q : Exit → Act → World → Prop}
theorem wpList_box (hgd : o.guard = none) (T : TypeId) (x : Operand) (ho : o.op = .box T x) (cells : Array Value) (hx : a.eval x = .agg cells)
   (h : ∀ w', Blk T w' w.heap.size cells.toList → Below w.heap.size w w' → Hid (w'.heap.size = w.heap.size + 1) → wpList P ops Q rest (a.put o.dst (.pointer (some ⟨w.heap.size, 0, none⟩))) w') : wpList P ops Q (o :: rest) a w := by
 refine wpList_plain hgd fun K hK' => ?_
 unfold Oper.wp execOp
 simp [ho, hx, Instr.box, newVar, newRow, Value.cells]
 refine hK' _ _ (h _ (heap_alloc_new w _) ((Below.refl _ _).alloc (Nat.le_refl _) _) (by show (w.heap.push _).size = _; simp))
end
section
variable {w : World} {ops : Array Oper} {rest : List Oper} {o : Oper} {a : Act} {Q : Exit → Act → World → Prop} {g : Nat} {E : TypeId} {L M : LgL} {s : Value} {x y : EnL}
theorem box_L (hgd : o.guard = none) (p : Operand) (ho : o.op = .box 30 p) (L : LgL) (s : Value) (hx : a.eval p = lgV L s)
   (h : ∀ w', Blk 30 w' w.heap.size (lgC L s) → Below w.heap.size w w' → Hid (w'.heap.size = w.heap.size + 1) → wpList Tryz.prog ops Q rest (a.put o.dst (.pointer (some ⟨w.heap.size, 0, none⟩))) w') : wpList Tryz.prog ops Q (o :: rest) a w :=
 wpList_box hgd _ p ho _ hx h
theorem box_E (hgd : o.guard = none) (p : Operand) (ho : o.op = .box 52 p) (x : EnL) (hx : a.eval p = enV x)
   (h : ∀ w', Blk 52 w' w.heap.size (enC x) → Below w.heap.size w w' → Hid (w'.heap.size = w.heap.size + 1) → wpList Tryz.prog ops Q rest (a.put o.dst (.pointer (some ⟨w.heap.size, 0, none⟩))) w') : wpList Tryz.prog ops Q (o :: rest) a w :=
 wpList_box hgd _ p ho _ hx h
theorem ld_L (hw : Region.wanted o (yielded ops a.tmps) = true) (p : Operand) (ho : o.op = .load 30 p) (hp : a.eval p = .pointer (some ⟨g, 0, none⟩)) (hK : Blk E w g (lgC L s))
   (h : wpList Tryz.prog ops Q rest (a.put o.dst (lgV L s)) w) : wpList Tryz.prog ops Q (o :: rest) a w :=
 wpList_ldw hw _ p ho g (lgC L s) E hp hK (aggL _) (sizeL _) h
theorem ld_E (hw : Region.wanted o (yielded ops a.tmps) = true) (p : Operand) (ho : o.op = .load 52 p) (hp : a.eval p = .pointer (some ⟨g, 0, none⟩)) (hK : Blk E w g (enC x))
   (h : wpList Tryz.prog ops Q rest (a.put o.dst (enV x)) w) : wpList Tryz.prog ops Q (o :: rest) a w :=
 wpList_ldw hw _ p ho g (enC x) E hp hK (aggE _) (sizeE _) h
theorem st_L (hgd : o.guard = none) (p v : Operand) (ho : o.op = .store 30 p v) (L : LgL) (A : Option Addr) (n c : Nat) (hp : a.eval p = .pointer (some ⟨g, 0, none⟩)) (hv : a.eval v = lgV L (.slice A n c)) (old : List Value) (hK : Blk E w g old) (hl : old.length = 14)
   (h : ∀ w', Blk E w' g (lgC L (.slice A n c)) → Put w w' g → wpList Tryz.prog ops Q rest (a.put o.dst undef) w') : wpList Tryz.prog ops Q (o :: rest) a w :=
 wpList_st hgd _ p v ho g _ old E hp hv hK sizeLv hl (lg_one L) h
theorem st_E (hgd : o.guard = none) (p v : Operand) (ho : o.op = .store 52 p v) (x : EnL) (hp : a.eval p = .pointer (some ⟨g, 0, none⟩)) (hv : a.eval v = enV x) (old : List Value) (hK : Blk E w g old) (hl : old.length = 14)
   (h : ∀ w', Blk E w' g (enC x) → Put w w' g → wpList Tryz.prog ops Q rest (a.put o.dst undef) w') : wpList Tryz.prog ops Q (o :: rest) a w :=
 wpList_st hgd _ p v ho g _ old E hp hv hK sizeEv hl (en_all x) h
theorem al_L (hgd : o.guard = none) (ho : o.op = .alloc 30)
   (h : ∀ w', Blk 30 w' w.heap.size zLc → Below w.heap.size w w' → Hid (w'.heap.size = w.heap.size + 1) → wpList Tryz.prog ops Q rest (a.put o.dst (.pointer (some ⟨w.heap.size, 0, none⟩))) w') : wpList Tryz.prog ops Q (o :: rest) a w :=
 wpList_al hgd _ ho zLv zeroLv zLc zLv_cells h
def zEc : List Value := [.int .i64 0, .int .i64 0, .string ⟨#[]⟩, .int .u16 0, .int .u16 0, .int .u16 0, .int .i64 0, .int .i64 0, .int .u16 0, .int .u16 0, .int .u16 0, .int .i64 0, .int .i64 0, .bool false]
theorem zeroEv : (Tryz.prog.info? 52).map (·.zero) = some (some (.agg zEc.toArray)) := by kernel_rfl
theorem al_E (hgd : o.guard = none) (ho : o.op = .alloc 52)
   (h : ∀ w', Blk 52 w' w.heap.size zEc → Below w.heap.size w w' → Hid (w'.heap.size = w.heap.size + 1) → wpList Tryz.prog ops Q rest (a.put o.dst (.pointer (some ⟨w.heap.size, 0, none⟩))) w') : wpList Tryz.prog ops Q (o :: rest) a w :=
 wpList_al hgd _ ho _ zeroEv zEc rfl h
theorem rld_L {p : Operand} (ho : o.op = .load 30 p) (hp : a.eval p = .pointer (some ⟨g, 0, none⟩)) (hK : Blk E w g (lgC L s)) : (execOp a.eval o).run Tryz.prog w = .ok (.value (lgV L s)) w := run_ldv ho hp hK (aggL _) (sizeL _)
end
theorem RdE.put {w w' : World} {g B n : Nat} {A : Option Addr} {es : List EnL} (h : RdE w B A n es) (hp : Put w w' g) (hg : B ≤ g) : RdE w' B A n es := h.below (hp.below _ _ (Below.refl _ _) hg)
theorem OwnE.put {w w' : World} {g base : Nat} {v : Value} {es : List EnL} (h : OwnE w base v es) (hp : Put w w' g) (hg : g < base) : OwnE w' base v es := h.keep fun q hq => hp.other q (by omega)
def RdN (w : World) (g : Nat) (A : Option Addr) (n : Nat) (es : List EnL) : Prop := RdE w w.heap.size A n es ∧ ∀ b o, 0 < n → A = some ⟨b, o, none⟩ → b ≠ g
theorem RdN.below {w w' : World} {g n : Nat} {A : Option Addr} {es : List EnL} (h : RdN w g A n es) (hb : Below w.heap.size w w') : RdN w' g A n es := ⟨h.1.on hb hb.size, h.2⟩
theorem RdN.put {w w' : World} {g n : Nat} {A : Option Addr} {es : List EnL} (h : RdN w g A n es) (hp : Put w w' g) : RdN w' g A n es := ⟨⟨h.1.1, fun hn => by
 obtain ⟨b, o, e, hlt, hc⟩ := h.1.2 hn
 refine ⟨b, o, e, by rw [hp.size]; exact hlt, fun j x hx q u hu => ?_⟩
 have hk := hp.other b (h.2 b o hn e)
 have := hc j x hx q u hu
 simpa [World.cell?, hk] using this⟩, h.2⟩
theorem RdN.of_rd {w : World} {g B n : Nat} {A : Option Addr} {es : List EnL} (h : RdE w B A n es) (hb : B ≤ g) (hB : B ≤ w.heap.size) : RdN w g A n es := ⟨h.more hB, fun b o hn e => by
 obtain ⟨b', o', e', hlt, _⟩ := h.2 hn
 rw [e] at e'
 have := Option.some.inj e'
 simp only [Addr.mk.injEq] at this
 omega⟩
theorem RdN.of_own {w : World} {g base n c : Nat} {A : Option Addr} {es : List EnL} (h : OwnE w base (.slice A n c) es) (hg : g < base) : RdN w g A n es := ⟨h.cap.2.2.2, fun b o hn e => by
 rcases h.2 with ⟨hv, hn0⟩ | ⟨g', cap, cur, hv, hb, _⟩
 · simp only [Value.slice.injEq] at hv
   rw [hv.1] at e; cases e
 · simp only [Value.slice.injEq] at hv
   rw [hv.1] at e
   have := Option.some.inj e
   simp only [Addr.mk.injEq] at this
   omega⟩
end Go.Proofs.YtegnfkbmlalkeaaGreat.kit
namespace Go.Proofs.YtegnfkbmlalkeaaGreat.kit
open Go Go.RowKit Go.Proofs.YtegnfkbmlalkeaaGreat.nums Go.Proofs.YtegnfkbmlalkeaaGreat.cf Go.Proofs.YtegnfkbmlalkeaaGreat.lg
set_option linter.unusedVariables false
theorem put_set (w : World) (g i : Nat) (u : Value) : Put w (w.setCell ⟨g, i, none⟩ u) g :=
 ⟨fun q hq => Below.heap_setCell w ⟨g, i, none⟩ u q hq, fun B w0 hb hB => hb.setCell (p := ⟨g, i, none⟩) hB u, by simp [World.setCell]⟩
theorem ldL {P : Program} {E : TypeId} {w : World} {g : Nat} {L : LgL} {s : Value} (h : Blk E w g (lgC L s)) : (loadCellsFrom ⟨g, 0, none⟩ 0 14 #[]).run P w = .ok (lgC L s).toArray w :=
 run_loadCells_list (P := P) w ⟨g, 0, none⟩ (lgC L s) (fun j v hv => by rw [Addr.add_lit, Nat.zero_add, h.cell]; exact hv)
def jC (j : JtL) : List Value := [j0 j, j1 j, j2 j, j3 j, j4 j, j5 j, j6 j, j7 j, j8 j, j9 j, j10 j]
section
variable {w : World} {ops : Array Oper} {rest : List Oper} {o : Oper} {a : Act} {Q : Exit → Act → World → Prop} {g : Nat} {E : TypeId} {L M : LgL} {s : Value} {x y : EnL}
theorem lo_L (p : Operand) (ho : o.op = .load 30 p) (hw : Region.wanted o (yielded ops a.tmps) = true) (hp : a.eval p = .pointer (some ⟨g, 0, none⟩)) (hK : Blk E w g (lgC L s))
   (h : wpList Tryz.prog ops Q rest (a.put o.dst (lgV L s)) w) : wpList Tryz.prog ops Q (o :: rest) a w := ld_L hw p ho hp hK h
theorem lo_Lj {p : Operand} (hK : Blk E w g (lgC L s)) (h : wpList Tryz.prog ops Q rest (a.put o.dst (lgV L s)) w) (ho : o.op = .load 30 p := by rfl) (hw : Region.wanted o (yielded ops a.tmps) = true := by rfl) (hp : a.eval p = .pointer (some ⟨g, 0, none⟩) := by rfl) : wpList Tryz.prog ops Q (o :: rest) a w := lo_L p ho hw hp hK h
theorem lo_E (p : Operand) (ho : o.op = .load 52 p) (hw : Region.wanted o (yielded ops a.tmps) = true) (hp : a.eval p = .pointer (some ⟨g, 0, none⟩)) (hK : Blk E w g (enC x))
   (h : wpList Tryz.prog ops Q rest (a.put o.dst (enV x)) w) : wpList Tryz.prog ops Q (o :: rest) a w := ld_E hw p ho hp hK h
theorem lo_Ej {p : Operand} (hK : Blk E w g (enC x)) (h : wpList Tryz.prog ops Q rest (a.put o.dst (enV x)) w) (ho : o.op = .load 52 p := by rfl) (hw : Region.wanted o (yielded ops a.tmps) = true := by rfl) (hp : a.eval p = .pointer (some ⟨g, 0, none⟩) := by rfl) : wpList Tryz.prog ops Q (o :: rest) a w := lo_E p ho hw hp hK h
theorem at_jL (h : Blk E w g (lgC L s)) : At w g 2 (jC L.j) := fun i u hu => by
 rw [h.cell (2 + i)]
 have hi : i < 11 := (List.getElem?_eq_some_iff.1 hu).1
 rw [← hu]
 show (lgC L s)[2 + i]? = (jC L.j)[i]?
 rw [show lgC L s = [.int .i64 L.b, .int .i64 L.t] ++ (jC L.j ++ [s]) from rfl, List.getElem?_append_right (by show 2 ≤ _; omega), List.getElem?_append_left (by show _ < 11; simp; omega)]
 congr 1
 show 2 + i - 2 = i
 omega
theorem at_jE (h : Blk E w g (enC x)) : At w g 3 (jC x.j) := fun i u hu => by
 rw [h.cell (3 + i)]
 have hi : i < 11 := (List.getElem?_eq_some_iff.1 hu).1
 rw [← hu]
 rw [show enC x = [.int .i64 x.t, .int .i64 x.k, .string x.d] ++ jC x.j from rfl, List.getElem?_append_right (by show 3 ≤ _; omega)]
 congr 1
 show 3 + i - 3 = i
 omega
theorem sizeJv : (Tryz.prog.info? 27).map (·.size) = some 11 := by kernel_rfl
end
end Go.Proofs.YtegnfkbmlalkeaaGreat.kit
namespace Go.Proofs.YtegnfkbmlalkeaaGreat.kit
open Go Go.RowKit Go.Proofs.YtegnfkbmlalkeaaGreat.kit Go.Proofs.YtegnfkbmlalkeaaGreat.nums Go.Proofs.YtegnfkbmlalkeaaGreat.cf Go.Proofs.YtegnfkbmlalkeaaGreat.lg
set_option linter.unusedVariables false
theorem Put.refl (w : World) (g : Nat) : Put w w g := ⟨fun _ _ => rfl, fun _ _ h _ => h, rfl⟩
theorem OwnE.blk_lt {w : World} {base n c : Nat} {A : Option Addr} {es : List EnL} (h : OwnE w base (.slice A n c) es) : ∀ b o, A = some ⟨b, o, none⟩ → base ≤ b ∧ b < w.heap.size := fun b o e => by
 rcases h.2 with ⟨hv, hn⟩ | ⟨g, cap, cur, hv, hbg, hg, r⟩
 · simp only [Value.slice.injEq] at hv
   rw [hv.1] at e; cases e
 · simp only [Value.slice.injEq] at hv
   rw [hv.1] at e
   have := Option.some.inj e
   simp only [Addr.mk.injEq] at this
   have h2 := lt_of_block hg
   omega
theorem laid_lenF (l : LgL) (prev : Int) (es : List EnL) : (laidF l prev es).length ≤ l.es.length + es.length := by
 unfold laidF
 dsimp only
 split
 · omega
 · simp only [List.length_append, List.length_take, List.length_drop]; omega
theorem merge_lenF (l : LgL) (prev term : Int) (es : List EnL) : (mergeF l prev term es).1.es.length ≤ l.es.length + es.length := by
 unfold mergeF
 split
 · exact laid_lenF l prev es
 · show l.es.length ≤ _; omega
end Go.Proofs.YtegnfkbmlalkeaaGreat.kit
namespace Go.Proofs.YtegnfkbmlalkeaaGreat.law12
open Go Go.RowKit Go.Proofs.YtegnfkbmlalkeaaGreat.kit Go.Proofs.YtegnfkbmlalkeaaGreat.nums Go.Proofs.YtegnfkbmlalkeaaGreat.cf Go.Proofs.YtegnfkbmlalkeaaGreat.lg
set_option linter.unusedVariables false
set_option maxHeartbeats 1000000 in
theorem small_any (A : Option Addr) (n c : Nat) (es : List EnL) (w : World) (B : Nat) (hR : RdE w B A n es) (hn : n ≤ 1000000) : Calls Tryz.prog 102 #[.slice A n c] w fun e w' => ∃ bl, e = .returned (.bool bl) ∧ w = w' := by
 have HR := Lib.hid hR
 clear hR
 go_enter Tryz.func102, Tryz.ntmps102
 go_wp2_with fail
 go_loopw [3] (fun iv wr => ∃ i : Nat, i ≤ n ∧ iv = .int .i64 (i : Int) ∧ wr = w) (fun iv _ => n - (intOf iv).toNat)
 case atStart => exact ⟨0, Nat.zero_le _, rfl, rfl⟩
 case round =>
   obtain ⟨i, hi, rfl, rfl⟩ := hrel
   by_cases hin : i < n
   · obtain ⟨bb, oo, x, rfl, hlt, hx, hA⟩ := HR.out.at_ (j := i) hin
     have c2 := hA 2 _ rfl
     have hin1 : (i : Int) < (n : Int) := by omega
     clear hA hx
     by_cases h2 : x.d.size ≤ 200
     · have h3 : ¬ ((200 : Int) < (x.d.size : Int)) := by omega
       go_wp2_with fail
       go_roundw
       case rel => exact ⟨i + 1, by omega, by go_num, trivial⟩
       case measure => simp [intOf] <;> omega
     · have h3 : (200 : Int) < (x.d.size : Int) := by omega
       go_wp2_with fail
       go_ret
       exact ⟨false, rfl, rfl⟩
   · obtain rfl : i = n := by omega
     go_wp2_with fail
     go_ret
     exact ⟨true, rfl, rfl⟩
set_option maxHeartbeats 1000000 in
theorem light_any (L : LgL) (A : Option Addr) (n c : Nat) (A2 : Option Addr) (n2 c2 : Nat) (es2 : List EnL) (w : World) (B B2 : Nat) (hR : RdE w B A n L.es) (hB : B ≤ w.heap.size) (hE : RdE w B2 A2 n2 es2) (hB2 : B2 ≤ w.heap.size) : Calls Tryz.prog 47 #[lgV L (.slice A n c), .slice A2 n2 c2] w fun e w' => ∃ bl, e = .returned (.bool bl) ∧ Hid (bl = true → n ≤ 60 ∧ n2 ≤ 60) ∧ Below w.heap.size w w' := by
 have HR := Lib.hid hR
 have HE := Lib.hid hE
 have hBs := Lib.hid hB
 have hBt := Lib.hid hB2
 clear hR hE hB hB2
 unfold lgV at *
 obtain ⟨b, t, j, es⟩ := L
 dsimp only at *
 have k0 : Blk 30 (w.alloc (.cells #[.int .i64 b, .int .i64 t, j0 j, j1 j, j2 j, j3 j, j4 j, j5 j, j6 j, j7 j, j8 j, j9 j, j10 j, .slice A n c] 30)) w.heap.size [.int .i64 b, .int .i64 t, j0 j, j1 j, j2 j, j3 j, j4 j, j5 j, j6 j, j7 j, j8 j, j9 j, j10 j, .slice A n c] := (heap_alloc_new w (.cells #[.int .i64 b, .int .i64 t, j0 j, j1 j, j2 j, j3 j, j4 j, j5 j, j6 j, j7 j, j8 j, j9 j, j10 j, .slice A n c] 30))
 have hB : Below w.heap.size w (w.alloc (.cells #[.int .i64 b, .int .i64 t, j0 j, j1 j, j2 j, j3 j, j4 j, j5 j, j6 j, j7 j, j8 j, j9 j, j10 j, .slice A n c] 30)) := ((Below.refl w.heap.size w).alloc (by first | exact Nat.le_refl _ | (simp; done) | (simp; omega)) (.cells #[.int .i64 b, .int .i64 t, j0 j, j1 j, j2 j, j3 j, j4 j, j5 j, j6 j, j7 j, j8 j, j9 j, j10 j, .slice A n c] 30))
 have HB := Lib.hid hB
 have HS : Hid (∀ wq, Below (w.alloc (.cells #[.int .i64 b, .int .i64 t, j0 j, j1 j, j2 j, j3 j, j4 j, j5 j, j6 j, j7 j, j8 j, j9 j, j10 j, .slice A n c] 30)).heap.size (w.alloc (.cells #[.int .i64 b, .int .i64 t, j0 j, j1 j, j2 j, j3 j, j4 j, j5 j, j6 j, j7 j, j8 j, j9 j, j10 j, .slice A n c] 30)) wq → (wq.cell? ⟨w.heap.size, 0, none⟩ = some (.int .i64 b) ∧ wq.cell? ⟨w.heap.size, 1, none⟩ = some (.int .i64 t) ∧ wq.cell? ⟨w.heap.size, 2, none⟩ = some (j0 j) ∧ wq.cell? ⟨w.heap.size, 3, none⟩ = some (j1 j) ∧ wq.cell? ⟨w.heap.size, 4, none⟩ = some (j2 j) ∧ wq.cell? ⟨w.heap.size, 5, none⟩ = some (j3 j) ∧ wq.cell? ⟨w.heap.size, 6, none⟩ = some (j4 j) ∧ wq.cell? ⟨w.heap.size, 7, none⟩ = some (j5 j) ∧ wq.cell? ⟨w.heap.size, 8, none⟩ = some (j6 j) ∧ wq.cell? ⟨w.heap.size, 9, none⟩ = some (j7 j) ∧ wq.cell? ⟨w.heap.size, 10, none⟩ = some (j8 j) ∧ wq.cell? ⟨w.heap.size, 11, none⟩ = some (j9 j) ∧ wq.cell? ⟨w.heap.size, 12, none⟩ = some (j10 j) ∧ wq.cell? ⟨w.heap.size, 13, none⟩ = some (.slice A n c))) := fun wq hq => blk14 (k0.below hq k0.lt)
 have q0 := Below.refl (w.alloc (.cells #[.int .i64 b, .int .i64 t, j0 j, j1 j, j2 j, j3 j, j4 j, j5 j, j6 j, j7 j, j8 j, j9 j, j10 j, .slice A n c] 30)).heap.size (w.alloc (.cells #[.int .i64 b, .int .i64 t, j0 j, j1 j, j2 j, j3 j, j4 j, j5 j, j6 j, j7 j, j8 j, j9 j, j10 j, .slice A n c] 30))
 have K0 := Lib.hid k0
 clear hB k0
 by_cases h1 : n ≤ 60
 · by_cases h2 : n2 ≤ 60
   · have h3 : ¬ ((60 : Int) < (n : Int)) := by omega
     have h4 : ¬ ((60 : Int) < (n2 : Int)) := by omega
     go_enter Tryz.func47, Tryz.ntmps47
     go_upto_region 1 with (fail)
     generalize (w.alloc (.cells #[.int .i64 b, .int .i64 t, j0 j, j1 j, j2 j, j3 j, j4 j, j5 j, j6 j, j7 j, j8 j, j9 j, j10 j, .slice A n c] 30)) = w1 at *
     have HR1 := Lib.hid (HR.out.on (HB.out.mono hBs.out) (Nat.le_trans hBs.out HB.out.size))
     have HE1 := Lib.hid (HE.out.on (HB.out.mono hBt.out) (Nat.le_trans hBt.out HB.out.size))
     have r0 := HS.out _ q0
     go_wp2_with fail
     refine (small_any A n c es w1 w1.heap.size HR1.out (by omega)).mono ?_
     rintro e y1 ⟨bl, rfl, rfl⟩
     cases bl
     · go_wp2_with fail
       go_ret
       first | exact ⟨false, rfl, (Lib.hid (fun h => by cases h)), HB.out⟩ | exact .inl ⟨rfl, Lib.hid trivial, HB.out⟩
     · go_wp2_with fail
       refine (small_any A2 n2 c2 es2 w1 w1.heap.size HE1.out (by omega)).mono ?_
       rintro e y1 ⟨bl, rfl, rfl⟩
       go_wp2_with fail
       go_ret
       exact ⟨bl, by first | rfl | simp, (Lib.hid (fun _ => ⟨h1, h2⟩)), HB.out⟩
   · have h3 : ¬ ((60 : Int) < (n : Int)) := by omega
     have h4 : (60 : Int) < (n2 : Int) := by omega
     clear h1 h2
     go_enter Tryz.func47, Tryz.ntmps47
     go_upto_region 1 with (fail)
     generalize (w.alloc (.cells #[.int .i64 b, .int .i64 t, j0 j, j1 j, j2 j, j3 j, j4 j, j5 j, j6 j, j7 j, j8 j, j9 j, j10 j, .slice A n c] 30)) = w1 at *
     have HR1 := Lib.hid (HR.out.on (HB.out.mono hBs.out) (Nat.le_trans hBs.out HB.out.size))
     have HE1 := Lib.hid (HE.out.on (HB.out.mono hBt.out) (Nat.le_trans hBt.out HB.out.size))
     have r0 := HS.out _ q0
     go_wp2_with fail
     go_ret
     first | exact ⟨false, rfl, (Lib.hid (fun h => by cases h)), HB.out⟩ | exact .inl ⟨rfl, Lib.hid trivial, HB.out⟩
 · have h3 : (60 : Int) < (n : Int) := by omega
   clear h1
   go_enter Tryz.func47, Tryz.ntmps47
   go_upto_region 1 with (fail)
   generalize (w.alloc (.cells #[.int .i64 b, .int .i64 t, j0 j, j1 j, j2 j, j3 j, j4 j, j5 j, j6 j, j7 j, j8 j, j9 j, j10 j, .slice A n c] 30)) = w1 at *
   have HR1 := Lib.hid (HR.out.on (HB.out.mono hBs.out) (Nat.le_trans hBs.out HB.out.size))
   have HE1 := Lib.hid (HE.out.on (HB.out.mono hBt.out) (Nat.le_trans hBt.out HB.out.size))
   have r0 := HS.out _ q0
   go_wp2_with fail
   go_ret
   first | exact ⟨false, rfl, (Lib.hid (fun h => by cases h)), HB.out⟩ | exact .inl ⟨rfl, Lib.hid trivial, HB.out⟩
end Go.Proofs.YtegnfkbmlalkeaaGreat.law12
namespace Go.Proofs.YtegnfkbmlalkeaaGreat.enti
open Go Go.RowKit Go.Proofs.YtegnfkbmlalkeaaGreat.kit Go.Proofs.YtegnfkbmlalkeaaGreat.nums Go.Proofs.YtegnfkbmlalkeaaGreat.cf Go.Proofs.YtegnfkbmlalkeaaGreat.lg
set_option linter.unusedVariables false
theorem wrap_sm {z : Int} (h1 : -9000000000000000000 ≤ z) (h2 : z ≤ 9000000000000000000) : IntKind.i64.wrap z = z := by rw [IntKind.wrap_i64]; omega
theorem within_any (n m : Int) (w : World) : Calls Tryz.prog 154 #[.int .i64 n, .int .i64 m] w fun e w' => e = .returned (.bool (withB n m)) ∧ w = w' := by
 unfold withB
 by_cases h1 : m ≤ n
 · by_cases h2 : n ≤ 1099511627776
   · go_enter Tryz.func154, Tryz.ntmps154
     go_wp2_with fail
     go_ret
     exact ⟨by simp <;> omega, rfl⟩
   · go_enter Tryz.func154, Tryz.ntmps154
     go_wp2_with fail
     go_ret
     exact ⟨by simp <;> omega, rfl⟩
 · go_enter Tryz.func154, Tryz.ntmps154
   go_wp2_with fail
   go_ret
   exact ⟨by simp <;> omega, rfl⟩
theorem last_any (L : LgL) (A : Option Addr) (n c : Nat) (w : World) (hn : L.es.length = n) (hf : Fit L) : Calls Tryz.prog 48 #[lgV L (.slice A n c)] w fun e w' => e = .returned (.int .i64 (lastF L)) ∧ Below w.heap.size w w' := by
 obtain ⟨h0, h1, h2⟩ := hf
 have u1 : IntKind.i64.wrap (L.b + (n : Int)) = L.b + (n : Int) := enti.wrap_sm (by omega) (by omega)
 have hl : lastF L = L.b + (n : Int) := by unfold lastF; rw [hn]
 rw [hl]
 unfold lgV
 obtain ⟨b, t, j, es⟩ := L
 dsimp only at *
 clear hl hn
 have k0 : Blk 30 (w.alloc (.cells #[.int .i64 b, .int .i64 t, j0 j, j1 j, j2 j, j3 j, j4 j, j5 j, j6 j, j7 j, j8 j, j9 j, j10 j, .slice A n c] 30)) w.heap.size [.int .i64 b, .int .i64 t, j0 j, j1 j, j2 j, j3 j, j4 j, j5 j, j6 j, j7 j, j8 j, j9 j, j10 j, .slice A n c] := (heap_alloc_new w (.cells #[.int .i64 b, .int .i64 t, j0 j, j1 j, j2 j, j3 j, j4 j, j5 j, j6 j, j7 j, j8 j, j9 j, j10 j, .slice A n c] 30))
 have hB : Below w.heap.size w (w.alloc (.cells #[.int .i64 b, .int .i64 t, j0 j, j1 j, j2 j, j3 j, j4 j, j5 j, j6 j, j7 j, j8 j, j9 j, j10 j, .slice A n c] 30)) := ((Below.refl w.heap.size w).alloc (by first | exact Nat.le_refl _ | simp) (.cells #[.int .i64 b, .int .i64 t, j0 j, j1 j, j2 j, j3 j, j4 j, j5 j, j6 j, j7 j, j8 j, j9 j, j10 j, .slice A n c] 30))
 have HB := Lib.hid hB
 clear hB
 go_enter Tryz.func48, Tryz.ntmps48
 go_wp2_with fail
 go_ret
 exact ⟨rfl, HB.out⟩
theorem behind_any (L : LgL) (A : Option Addr) (n c k : Nat) (i : Int) (w : World) (B : Nat) (hR : RdE w B A n L.es) (hB : B ≤ w.heap.size) (hc : n ≤ c) (hf : Fit L) (hi : i = L.b + k) (hk : k ≤ n) : Calls Tryz.prog 152 #[lgV L (.slice A n c), .int .i64 i] w fun e w' => ∃ A' c', e = .returned (.slice A' (n - k) c') ∧ RdE w' B A' (n - k) (L.es.drop k) ∧ (n - k) ≤ c' ∧ c' ≤ c ∧ Below w.heap.size w w' := by
 obtain ⟨h0, h1, h2⟩ := hf
 have hl := hR.1
 have u1 : IntKind.i64.wrap (i - L.b) = (k : Int) := by rw [enti.wrap_sm (by omega) (by omega)]; omega
 have HR := Lib.hid hR
 have hBs := hB
 clear hi hR hB
 unfold lgV
 obtain ⟨b, t, j, es⟩ := L
 dsimp only at *
 clear h0 h1 h2 hl
 have k0 : Blk 30 (w.alloc (.cells #[.int .i64 b, .int .i64 t, j0 j, j1 j, j2 j, j3 j, j4 j, j5 j, j6 j, j7 j, j8 j, j9 j, j10 j, .slice A n c] 30)) w.heap.size [.int .i64 b, .int .i64 t, j0 j, j1 j, j2 j, j3 j, j4 j, j5 j, j6 j, j7 j, j8 j, j9 j, j10 j, .slice A n c] := (heap_alloc_new w (.cells #[.int .i64 b, .int .i64 t, j0 j, j1 j, j2 j, j3 j, j4 j, j5 j, j6 j, j7 j, j8 j, j9 j, j10 j, .slice A n c] 30))
 have hB : Below w.heap.size w (w.alloc (.cells #[.int .i64 b, .int .i64 t, j0 j, j1 j, j2 j, j3 j, j4 j, j5 j, j6 j, j7 j, j8 j, j9 j, j10 j, .slice A n c] 30)) := ((Below.refl w.heap.size w).alloc (by first | exact Nat.le_refl _ | simp) (.cells #[.int .i64 b, .int .i64 t, j0 j, j1 j, j2 j, j3 j, j4 j, j5 j, j6 j, j7 j, j8 j, j9 j, j10 j, .slice A n c] 30))
 have HB := Lib.hid hB
 clear hB
 go_enter Tryz.func152, Tryz.ntmps152
 go_wp2_with (with_reducible refine wpList_slice_lE rfl _ _ rfl A n c B es rfl (HR.out.on (HB.out.mono hBs) (Nat.le_refl _)) .i64 _ k rfl rfl hk hc ?_)
 intro A' c' hR2 hc1 hc2
 have HR2 := Lib.hid hR2
 clear hR2
 go_wp2_with fail
 go_ret
 exact ⟨A', c', rfl, HR2.out, by omega, by omega, HB.out⟩
theorem upTo_any (L : LgL) (A : Option Addr) (n c k : Nat) (i : Int) (w : World) (B : Nat) (hR : RdE w B A n L.es) (hB : B ≤ w.heap.size) (hc : n ≤ c) (hf : Fit L) (hi : i = L.b + k) (hk : k ≤ n) : Calls Tryz.prog 150 #[lgV L (.slice A n c), .int .i64 i] w fun e w' => ∃ A' c', e = .returned (.slice A' k c') ∧ RdE w' B A' k (L.es.take k) ∧ k ≤ c' ∧ c' ≤ c ∧ Below w.heap.size w w' := by
 obtain ⟨h0, h1, h2⟩ := hf
 have hl := hR.1
 have u1 : IntKind.i64.wrap (i - L.b) = (k : Int) := by rw [enti.wrap_sm (by omega) (by omega)]; omega
 have HR := Lib.hid hR
 have hBs := hB
 clear hi hR hB
 unfold lgV
 obtain ⟨b, t, j, es⟩ := L
 dsimp only at *
 clear h0 h1 h2 hl
 have k0 : Blk 30 (w.alloc (.cells #[.int .i64 b, .int .i64 t, j0 j, j1 j, j2 j, j3 j, j4 j, j5 j, j6 j, j7 j, j8 j, j9 j, j10 j, .slice A n c] 30)) w.heap.size [.int .i64 b, .int .i64 t, j0 j, j1 j, j2 j, j3 j, j4 j, j5 j, j6 j, j7 j, j8 j, j9 j, j10 j, .slice A n c] := (heap_alloc_new w (.cells #[.int .i64 b, .int .i64 t, j0 j, j1 j, j2 j, j3 j, j4 j, j5 j, j6 j, j7 j, j8 j, j9 j, j10 j, .slice A n c] 30))
 have hB : Below w.heap.size w (w.alloc (.cells #[.int .i64 b, .int .i64 t, j0 j, j1 j, j2 j, j3 j, j4 j, j5 j, j6 j, j7 j, j8 j, j9 j, j10 j, .slice A n c] 30)) := ((Below.refl w.heap.size w).alloc (by first | exact Nat.le_refl _ | simp) (.cells #[.int .i64 b, .int .i64 t, j0 j, j1 j, j2 j, j3 j, j4 j, j5 j, j6 j, j7 j, j8 j, j9 j, j10 j, .slice A n c] 30))
 have HB := Lib.hid hB
 clear hB
 go_enter Tryz.func150, Tryz.ntmps150
 go_wp2_with (with_reducible refine wpList_slice_hE rfl _ _ rfl A n c B es rfl (HR.out.on (HB.out.mono hBs) (Nat.le_refl _)) .i64 _ k rfl rfl hk hc ?_)
 intro A' c' hR2 hc1 hc2
 have HR2 := Lib.hid hR2
 clear hR2
 go_wp2_with fail
 go_ret
 exact ⟨A', c', rfl, HR2.out, by omega, by omega, HB.out⟩
end Go.Proofs.YtegnfkbmlalkeaaGreat.enti
namespace Go.Proofs.YtegnfkbmlalkeaaGreat.ref10
open Go Go.RowKit Go.Proofs.YtegnfkbmlalkeaaGreat.kit Go.Proofs.YtegnfkbmlalkeaaGreat.nums Go.Proofs.YtegnfkbmlalkeaaGreat.se Go.Proofs.YtegnfkbmlalkeaaGreat.cf
set_option linter.unusedVariables false
def twoL (j : JtL) : List CfL := if j.two then [j.a, j.b] else [j.a]
theorem two_len (j : JtL) : 1 ≤ (twoL j).length ∧ (twoL j).length ≤ 2 := by
 unfold twoL; split <;> simp
theorem two_ok {j : JtL} (h : j.ok) : ∀ c ∈ twoL j, c.ok := by
 unfold twoL
 intro c hc
 split at hc
 · rcases List.mem_cons.1 hc with rfl | hc
   · exact h.1
   · rw [List.mem_singleton] at hc; subst hc; exact h.2
 · rw [List.mem_singleton] at hc; subst hc; exact h.1
theorem all_bad {L : List CfL} {P : CfL → Bool} {c : CfL} {i : Nat} (h : L[i]? = some c) (hP : P c = false) : L.all P = false := by
 rw [List.all_eq_false]; exact ⟨c, List.mem_of_getElem? h, by simp [hP]⟩
theorem all_good {L : List CfL} {P : CfL → Bool} {k : Nat} (h : ∀ c ∈ L.take k, P c = true) (hk : L.length = k) : L.all P = true := by
 rw [List.all_eq_true]; intro c hc; exact h c (by rw [← hk, List.take_length]; exact hc)
theorem take_more {L : List CfL} {P : CfL → Bool} {c : CfL} {i : Nat} (h : ∀ c ∈ L.take i, P c = true) (hc : L[i]? = some c) (hP : P c = true) : ∀ c ∈ L.take (i + 1), P c = true := by
 obtain ⟨hi, rfl⟩ := List.getElem?_eq_some_iff.1 hc
 rw [List.take_succ_eq_append_getElem hi]
 intro x hx
 rcases List.mem_append.1 hx with hx | hx
 · exact h x hx
 · rw [List.mem_singleton] at hx; subst hx; exact hP
theorem two_any (j : JtL) (w : World) : Calls Tryz.prog 125 #[jtV j] w fun e w' => ∃ p, e = .returned (.slice (some ⟨p, 0, none⟩) (twoL j).length (twoL j).length) ∧ p < w'.heap.size ∧ Below w.heap.size w w' ∧ ∀ i c, (twoL j)[i]? = some c → At w' p (i * 5) (cfC c) := by
 unfold jtV twoL
 obtain ⟨⟨av, aw, al, ae, ak⟩, ⟨bv, bw, bl, be, bk⟩, t⟩ := j
 dsimp only at *
 have hB := (Below.refl w.heap.size w).alloc (Nat.le_refl _) (.cells #[.int .u16 (av : Int), .int .u16 (aw : Int), .int .u16 (al : Int), .int .i64 ae, .int .i64 ak, .int .u16 (bv : Int), .int .u16 (bw : Int), .int .u16 (bl : Int), .int .i64 be, .int .i64 bk, .bool t] 27)
 have hs := hB.size
 cases t
 · have hB2 := hB.alloc hs (.cells #[.int .u16 (av : Int), .int .u16 (aw : Int), .int .u16 (al : Int), .int .i64 ae, .int .i64 ak] 25)
   have hA := at_new (w.alloc (.cells #[.int .u16 (av : Int), .int .u16 (aw : Int), .int .u16 (al : Int), .int .i64 ae, .int .i64 ak, .int .u16 (bv : Int), .int .u16 (bw : Int), .int .u16 (bl : Int), .int .i64 be, .int .i64 bk, .bool false] 27)) 25 (cfC ⟨av, aw, al, ae, ak⟩)
   go_enter Tryz.func125, Tryz.ntmps125
   go_wp2_with fail
   go_ret
   refine ⟨w.heap.size + 1, rfl, by simp, hB2, fun i c hc => ?_⟩
   have h0 : i = 0 := by
     rcases i with _ | i
     · rfl
     · simp at hc
   subst h0
   have hc := Option.some.inj hc
   subst hc
   have hsz : (w.alloc (.cells #[.int .u16 (av : Int), .int .u16 (aw : Int), .int .u16 (al : Int), .int .i64 ae, .int .i64 ak, .int .u16 (bv : Int), .int .u16 (bw : Int), .int .u16 (bl : Int), .int .i64 be, .int .i64 bk, .bool false] 27)).heap.size = w.heap.size + 1 := by simp
   rw [hsz] at hA
   exact hA
 · have hB2 := hB.alloc hs (.cells #[.int .u16 (av : Int), .int .u16 (aw : Int), .int .u16 (al : Int), .int .i64 ae, .int .i64 ak, .int .u16 (bv : Int), .int .u16 (bw : Int), .int .u16 (bl : Int), .int .i64 be, .int .i64 bk] 25)
   have hA := at_new (w.alloc (.cells #[.int .u16 (av : Int), .int .u16 (aw : Int), .int .u16 (al : Int), .int .i64 ae, .int .i64 ak, .int .u16 (bv : Int), .int .u16 (bw : Int), .int .u16 (bl : Int), .int .i64 be, .int .i64 bk, .bool true] 27)) 25 (cfC ⟨av, aw, al, ae, ak⟩ ++ cfC ⟨bv, bw, bl, be, bk⟩)
   go_enter Tryz.func125, Tryz.ntmps125
   go_wp2_with fail
   go_ret
   refine ⟨w.heap.size + 1, rfl, by simp, hB2, fun i c hc => ?_⟩
   have hsz : (w.alloc (.cells #[.int .u16 (av : Int), .int .u16 (aw : Int), .int .u16 (al : Int), .int .i64 ae, .int .i64 ak, .int .u16 (bv : Int), .int .u16 (bw : Int), .int .u16 (bl : Int), .int .i64 be, .int .i64 bk, .bool true] 27)).heap.size = w.heap.size + 1 := by simp
   rw [hsz] at hA
   rcases i with _ | i
   · have hc := Option.some.inj hc
     subst hc
     intro q u hu
     have hq : q < 5 := (List.getElem?_eq_some_iff.1 hu).1
     have := hA q u (by rw [List.getElem?_append_left (by exact hq)]; exact hu)
     rw [show 0 * 5 + q = 0 + q by omega]
     exact this
   · have h0 : i = 0 := by
       rcases i with _ | i
       · rfl
       · simp at hc
     subst h0
     have hc := Option.some.inj hc
     subst hc
     intro q u hu
     have := hA (5 + q) u (by rw [List.getElem?_append_right (by show 5 ≤ 5 + q; omega)]; show _ = _; rw [show 5 + q - (cfC ⟨av, aw, al, ae, ak⟩).length = q by show 5 + q - 5 = q; omega]; exact hu)
     rw [show (0 + 1) * 5 + q = 0 + (5 + q) by omega]
     exact this
end Go.Proofs.YtegnfkbmlalkeaaGreat.ref10
namespace Go.Proofs.YtegnfkbmlalkeaaGreat.ref10
open Go Go.RowKit Go.Proofs.YtegnfkbmlalkeaaGreat.kit Go.Proofs.YtegnfkbmlalkeaaGreat.nums Go.Proofs.YtegnfkbmlalkeaaGreat.se Go.Proofs.YtegnfkbmlalkeaaGreat.cf
set_option linter.unusedVariables false
set_option maxHeartbeats 1000000 in
theorem mayJ_any (j : JtL) (w : World) (h : j.ok) : Calls Tryz.prog 108 #[jtV j] w fun e w' => e = .returned (.bool (mayJ j)) ∧ Below w.heap.size w w' := by
 have HK := Lib.hid (two_ok h)
 have CT := Lib.hid (fun w => two_any j w)
 have CM := Lib.hid (fun (c : CfL) (hc : c.ok) w => may_any c w hc)
 have HR : Hid (mayJ j = ((j.two || decide (j.b = zeroC)) && (twoL j).all mayC)) := by
   show _ = _; unfold mayJ twoL; cases j.two
   · simp [Bool.and_comm]
   · simp
 have NZ := Lib.hid (fun w => neq_zero j.b.v j.b.w j.b.l j.b.e j.b.k w)
 have h2 := two_len j
 rw [HR.out]
 clear HR h
 generalize twoL j = L at *
 obtain ⟨k, hk⟩ : ∃ k, L.length = k := ⟨_, rfl⟩
 rw [hk] at CT h2
 unfold jtV at *
 obtain ⟨⟨av, aw, al, ae, ak⟩, ⟨bv, bw, bl, be, bk⟩, t⟩ := j
 dsimp only at *
 have hB0 := (Below.refl w.heap.size w).alloc (Nat.le_refl _) (.cells #[.int .u16 (av : Int), .int .u16 (aw : Int), .int .u16 (al : Int), .int .i64 ae, .int .i64 ak, .int .u16 (bv : Int), .int .u16 (bw : Int), .int .u16 (bl : Int), .int .i64 be, .int .i64 bk, .bool t] 27)
 go_enter Tryz.func108, Tryz.ntmps108
 have hbz : (⟨bv, bw, bl, be, bk⟩ : CfL) = zeroC ∨ ¬ (⟨bv, bw, bl, be, bk⟩ : CfL) = zeroC := Decidable.em _
 cases t
 · by_cases hz : (⟨bv, bw, bl, be, bk⟩ : CfL) = zeroC
   · rw [decide_eq_true hz] at NZ ⊢
     clear hz hbz
     have nz := fun w => NZ.out w
     go_wp2_with fail
     refine (CT.out _).mono ?_
     rintro e w2 ⟨p, rfl, hp, hB2, hA⟩
     have HA := Lib.hid hA
     have HB2 := Lib.hid (hB0.trans (hB2.mono hB0.size))
     clear hA hB0 hB2 CT
     go_wp2_with fail
     go_loopw [4] (fun iv wr => ∃ i : Nat, i ≤ k ∧ iv = .int .i64 (i : Int) ∧ Below w2.heap.size w2 wr ∧ Hid (∀ c ∈ L.take i, mayC c = true)) (fun iv _ => k - (intOf iv).toNat)
     case atStart => exact ⟨0, Nat.zero_le _, rfl, Below.refl _ _, fun c hc => by simp at hc⟩
     case round =>
       obtain ⟨i, hi, rfl, hBr, HI⟩ := hrel
       by_cases hlt : i < k
       · obtain ⟨c, hc⟩ : ∃ c, L[i]? = some c := ⟨L[i]'(by omega), List.getElem?_eq_getElem _⟩
         have hok := HK.out c (List.mem_of_getElem? hc)
         have hA := HA.out i c hc
         have HC := Lib.hid hc
         clear hc
         have cM := Lib.hid (CM.out c hok)
         have HS : Hid (∀ wq, Below wr.heap.size wr wq → (wq.cell? ⟨p, i * 5, none⟩ = some (.int .u16 (c.v : Int)) ∧ wq.cell? ⟨p, i * 5 + 1, none⟩ = some (.int .u16 (c.w : Int)) ∧ wq.cell? ⟨p, i * 5 + 2, none⟩ = some (.int .u16 (c.l : Int)) ∧ wq.cell? ⟨p, i * 5 + 3, none⟩ = some (.int .i64 c.e) ∧ wq.cell? ⟨p, i * 5 + 4, none⟩ = some (.int .i64 c.k))) := fun wq hq => at5 (hA.below hp (hBr.trans (hq.mono hBr.size)))
         clear hA
         unfold cfV at *
         obtain ⟨cv, cw, cl, ce, ck⟩ := c
         dsimp only at *
         have q0 := Below.refl wr.heap.size wr
         have r0 := HS.out _ q0
         cases hm : mayC ⟨cv, cw, cl, ce, ck⟩
         · rw [hm] at cM
           go_wp2_with fail
           refine (cM.out _).mono ?_
           rintro e y1 ⟨rfl, hY1⟩
           have q1 := q0.trans (hY1.mono q0.size)
           have r1 := HS.out _ q1
           go_wp2_with fail
           go_ret
           exact ⟨ref9.ret_bool (by rw [all_bad HC.out hm]; simp), HB2.out.trans ((hBr.trans (q1.mono hBr.size)).mono HB2.out.size)⟩
         · rw [hm] at cM
           go_wp2_with fail
           refine (cM.out _).mono ?_
           rintro e y1 ⟨rfl, hY1⟩
           have q1 := q0.trans (hY1.mono q0.size)
           have r1 := HS.out _ q1
           go_wp2_with fail
           go_round
           case rel => exact ⟨i + 1, by omega, by go_num, hBr.trans (q1.mono hBr.size), take_more HI.out HC.out hm⟩
           case measure => simp [intOf]; omega
       · obtain rfl : i = k := by omega
         go_wp2_with fail
         go_ret
         exact ⟨ref9.ret_bool (by rw [all_good HI.out hk]; simp), HB2.out.trans (hBr.mono HB2.out.size)⟩
   · rw [decide_eq_false hz] at NZ ⊢
     clear hz hbz
     have nz := fun w => NZ.out w
     go_wp2_with fail
     go_ret
     exact ⟨ref9.ret_bool (by simp), hB0⟩
 · clear hbz
   go_wp2_with fail
   refine (CT.out _).mono ?_
   rintro e w2 ⟨p, rfl, hp, hB2, hA⟩
   have HA := Lib.hid hA
   have HB2 := Lib.hid (hB0.trans (hB2.mono hB0.size))
   clear hA hB0 hB2 CT
   go_wp2_with fail
   go_loopw [4] (fun iv wr => ∃ i : Nat, i ≤ k ∧ iv = .int .i64 (i : Int) ∧ Below w2.heap.size w2 wr ∧ Hid (∀ c ∈ L.take i, mayC c = true)) (fun iv _ => k - (intOf iv).toNat)
   case atStart => exact ⟨0, Nat.zero_le _, rfl, Below.refl _ _, fun c hc => by simp at hc⟩
   case round =>
     obtain ⟨i, hi, rfl, hBr, HI⟩ := hrel
     by_cases hlt : i < k
     · obtain ⟨c, hc⟩ : ∃ c, L[i]? = some c := ⟨L[i]'(by omega), List.getElem?_eq_getElem _⟩
       have hok := HK.out c (List.mem_of_getElem? hc)
       have hA := HA.out i c hc
       have HC := Lib.hid hc
       clear hc
       have cM := Lib.hid (CM.out c hok)
       have HS : Hid (∀ wq, Below wr.heap.size wr wq → (wq.cell? ⟨p, i * 5, none⟩ = some (.int .u16 (c.v : Int)) ∧ wq.cell? ⟨p, i * 5 + 1, none⟩ = some (.int .u16 (c.w : Int)) ∧ wq.cell? ⟨p, i * 5 + 2, none⟩ = some (.int .u16 (c.l : Int)) ∧ wq.cell? ⟨p, i * 5 + 3, none⟩ = some (.int .i64 c.e) ∧ wq.cell? ⟨p, i * 5 + 4, none⟩ = some (.int .i64 c.k))) := fun wq hq => at5 (hA.below hp (hBr.trans (hq.mono hBr.size)))
       clear hA
       unfold cfV at *
       obtain ⟨cv, cw, cl, ce, ck⟩ := c
       dsimp only at *
       have q0 := Below.refl wr.heap.size wr
       have r0 := HS.out _ q0
       cases hm : mayC ⟨cv, cw, cl, ce, ck⟩
       · rw [hm] at cM
         go_wp2_with fail
         refine (cM.out _).mono ?_
         rintro e y1 ⟨rfl, hY1⟩
         have q1 := q0.trans (hY1.mono q0.size)
         have r1 := HS.out _ q1
         go_wp2_with fail
         go_ret
         exact ⟨ref9.ret_bool (by rw [all_bad HC.out hm]; simp), HB2.out.trans ((hBr.trans (q1.mono hBr.size)).mono HB2.out.size)⟩
       · rw [hm] at cM
         go_wp2_with fail
         refine (cM.out _).mono ?_
         rintro e y1 ⟨rfl, hY1⟩
         have q1 := q0.trans (hY1.mono q0.size)
         have r1 := HS.out _ q1
         go_wp2_with fail
         go_round
         case rel => exact ⟨i + 1, by omega, by go_num, hBr.trans (q1.mono hBr.size), take_more HI.out HC.out hm⟩
         case measure => simp [intOf]; omega
     · obtain rfl : i = k := by omega
       go_wp2_with fail
       go_ret
       exact ⟨ref9.ret_bool (by rw [all_good HI.out hk]; simp), HB2.out.trans (hBr.mono HB2.out.size)⟩
end Go.Proofs.YtegnfkbmlalkeaaGreat.ref10
namespace Go.Proofs.YtegnfkbmlalkeaaGreat.confi
open Go Go.RowKit Go.Proofs.YtegnfkbmlalkeaaGreat.kit Go.Proofs.YtegnfkbmlalkeaaGreat.nums Go.Proofs.YtegnfkbmlalkeaaGreat.se Go.Proofs.YtegnfkbmlalkeaaGreat.cf
set_option linter.unusedVariables false
theorem final_any (j : JtL) (w : World) : Calls Tryz.prog 144 #[jtV j] w fun e w' => e = .returned (jtV (finalJ j)) ∧ Below w.heap.size w w' := by
 unfold jtV finalJ
 obtain ⟨⟨av, aw, al, ae, ak⟩, ⟨bv, bw, bl, be, bk⟩, t⟩ := j
 dsimp only at *
 have k0 : Blk 27 ((w.alloc (.cells #[.int .u16 (av : Int), .int .u16 (aw : Int), .int .u16 (al : Int), .int .i64 ae, .int .i64 ak, .int .u16 (bv : Int), .int .u16 (bw : Int), .int .u16 (bl : Int), .int .i64 be, .int .i64 bk, .bool t] 27)).alloc (.cells #[.int .u16 0, .int .u16 0, .int .u16 0, .int .i64 0, .int .i64 0, .int .u16 0, .int .u16 0, .int .u16 0, .int .i64 0, .int .i64 0, .bool false] 27)) w.heap.size [.int .u16 (av : Int), .int .u16 (aw : Int), .int .u16 (al : Int), .int .i64 ae, .int .i64 ak, .int .u16 (bv : Int), .int .u16 (bw : Int), .int .u16 (bl : Int), .int .i64 be, .int .i64 bk, .bool t] := Blk.alloc (heap_alloc_new w _) _
 have k1 : Blk 27 ((w.alloc (.cells #[.int .u16 (av : Int), .int .u16 (aw : Int), .int .u16 (al : Int), .int .i64 ae, .int .i64 ak, .int .u16 (bv : Int), .int .u16 (bw : Int), .int .u16 (bl : Int), .int .i64 be, .int .i64 bk, .bool t] 27)).alloc (.cells #[.int .u16 0, .int .u16 0, .int .u16 0, .int .i64 0, .int .i64 0, .int .u16 0, .int .u16 0, .int .u16 0, .int .i64 0, .int .i64 0, .bool false] 27)) (w.heap.size + 1) [.int .u16 0, .int .u16 0, .int .u16 0, .int .i64 0, .int .i64 0, .int .u16 0, .int .u16 0, .int .u16 0, .int .i64 0, .int .i64 0, .bool false] := by have := heap_alloc_new (w.alloc (.cells #[.int .u16 (av : Int), .int .u16 (aw : Int), .int .u16 (al : Int), .int .i64 ae, .int .i64 ak, .int .u16 (bv : Int), .int .u16 (bw : Int), .int .u16 (bl : Int), .int .i64 be, .int .i64 bk, .bool t] 27)) (.cells #[.int .u16 0, .int .u16 0, .int .u16 0, .int .i64 0, .int .i64 0, .int .u16 0, .int .u16 0, .int .u16 0, .int .i64 0, .int .i64 0, .bool false] 27); rwa [show (w.alloc (.cells #[.int .u16 (av : Int), .int .u16 (aw : Int), .int .u16 (al : Int), .int .i64 ae, .int .i64 ak, .int .u16 (bv : Int), .int .u16 (bw : Int), .int .u16 (bl : Int), .int .i64 be, .int .i64 bk, .bool t] 27)).heap.size = w.heap.size + 1 by simp] at this
 have hB := ((Below.refl w.heap.size w).alloc (Nat.le_refl _) (.cells #[.int .u16 (av : Int), .int .u16 (aw : Int), .int .u16 (al : Int), .int .i64 ae, .int .i64 ak, .int .u16 (bv : Int), .int .u16 (bw : Int), .int .u16 (bl : Int), .int .i64 be, .int .i64 bk, .bool t] 27)).alloc (by simp) (.cells #[.int .u16 0, .int .u16 0, .int .u16 0, .int .i64 0, .int .i64 0, .int .u16 0, .int .u16 0, .int .u16 0, .int .i64 0, .int .i64 0, .bool false] 27)
 have c0 := blk11 k0
 have c1 := blk11 k1
 have df := fun i => k1.frozen i
 clear k0
 have hB2 := Lib.hid hB
 have K1 := Lib.hid k1
 clear k1 hB
 cases t
 · go_enter Tryz.func144, Tryz.ntmps144
   go_upto_region 1 with (fail)
   generalize ((w.alloc (.cells #[.int .u16 (av : Int), .int .u16 (aw : Int), .int .u16 (al : Int), .int .i64 ae, .int .i64 ak, .int .u16 (bv : Int), .int .u16 (bw : Int), .int .u16 (bl : Int), .int .i64 be, .int .i64 bk, .bool false] 27)).alloc (.cells #[.int .u16 0, .int .u16 0, .int .u16 0, .int .i64 0, .int .i64 0, .int .u16 0, .int .u16 0, .int .u16 0, .int .i64 0, .int .i64 0, .bool false] 27)) = w1 at *
   go_wp2_with fail
   have sF := put11 (.int .u16 (av : Int)) (.int .u16 (aw : Int)) (.int .u16 (al : Int)) (.int .i64 ae) (.int .i64 ak) (.int .u16 (bv : Int)) (.int .u16 (bw : Int)) (.int .u16 (bl : Int)) (.int .i64 be) (.int .i64 bk) (.bool false) K1.out
   have bF := below11 (g := w.heap.size + 1) (.int .u16 (av : Int)) (.int .u16 (aw : Int)) (.int .u16 (al : Int)) (.int .i64 ae) (.int .i64 ak) (.int .u16 (bv : Int)) (.int .u16 (bw : Int)) (.int .u16 (bl : Int)) (.int .i64 be) (.int .i64 bk) (.bool false) hB2.out (by first | omega | simp)
   generalize (((((((((((w1.setCell ⟨w.heap.size + 1, 0, none⟩ (.int .u16 (av : Int))).setCell ⟨w.heap.size + 1, 1, none⟩ (.int .u16 (aw : Int))).setCell ⟨w.heap.size + 1, 2, none⟩ (.int .u16 (al : Int))).setCell ⟨w.heap.size + 1, 3, none⟩ (.int .i64 ae)).setCell ⟨w.heap.size + 1, 4, none⟩ (.int .i64 ak)).setCell ⟨w.heap.size + 1, 5, none⟩ (.int .u16 (bv : Int))).setCell ⟨w.heap.size + 1, 6, none⟩ (.int .u16 (bw : Int))).setCell ⟨w.heap.size + 1, 7, none⟩ (.int .u16 (bl : Int))).setCell ⟨w.heap.size + 1, 8, none⟩ (.int .i64 be)).setCell ⟨w.heap.size + 1, 9, none⟩ (.int .i64 bk)).setCell ⟨w.heap.size + 1, 10, none⟩ (.bool false)) = wf at *
   obtain ⟨e0, e1, e2, e3, e4, e5, e6, e7, e8, e9, e10⟩ := blk11 sF
   (try simp only [Exit.inBlock, Exit.then])
   refine bodyPost_ret (by simp [results, Tryz.results144, go_sem, e0, e1, e2, e3, e4, e5, e6, e7, e8, e9, e10]; try rfl) rfl ?_
   exact ⟨by rfl, bF⟩
 · go_enter Tryz.func144, Tryz.ntmps144
   go_upto_region 1 with (fail)
   generalize ((w.alloc (.cells #[.int .u16 (av : Int), .int .u16 (aw : Int), .int .u16 (al : Int), .int .i64 ae, .int .i64 ak, .int .u16 (bv : Int), .int .u16 (bw : Int), .int .u16 (bl : Int), .int .i64 be, .int .i64 bk, .bool true] 27)).alloc (.cells #[.int .u16 0, .int .u16 0, .int .u16 0, .int .i64 0, .int .i64 0, .int .u16 0, .int .u16 0, .int .u16 0, .int .i64 0, .int .i64 0, .bool false] 27)) = w1 at *
   go_wp2_with fail
   have sF := put11 (.int .u16 (bv : Int)) (.int .u16 (bw : Int)) (.int .u16 (bl : Int)) (.int .i64 be) (.int .i64 bk) (.int .u16 0) (.int .u16 0) (.int .u16 0) (.int .i64 0) (.int .i64 0) (.bool false) K1.out
   have bF := below11 (g := w.heap.size + 1) (.int .u16 (bv : Int)) (.int .u16 (bw : Int)) (.int .u16 (bl : Int)) (.int .i64 be) (.int .i64 bk) (.int .u16 0) (.int .u16 0) (.int .u16 0) (.int .i64 0) (.int .i64 0) (.bool false) hB2.out (by first | omega | simp)
   generalize (((((((((((w1.setCell ⟨w.heap.size + 1, 0, none⟩ (.int .u16 (bv : Int))).setCell ⟨w.heap.size + 1, 1, none⟩ (.int .u16 (bw : Int))).setCell ⟨w.heap.size + 1, 2, none⟩ (.int .u16 (bl : Int))).setCell ⟨w.heap.size + 1, 3, none⟩ (.int .i64 be)).setCell ⟨w.heap.size + 1, 4, none⟩ (.int .i64 bk)).setCell ⟨w.heap.size + 1, 5, none⟩ (.int .u16 0)).setCell ⟨w.heap.size + 1, 6, none⟩ (.int .u16 0)).setCell ⟨w.heap.size + 1, 7, none⟩ (.int .u16 0)).setCell ⟨w.heap.size + 1, 8, none⟩ (.int .i64 0)).setCell ⟨w.heap.size + 1, 9, none⟩ (.int .i64 0)).setCell ⟨w.heap.size + 1, 10, none⟩ (.bool false)) = wf at *
   obtain ⟨e0, e1, e2, e3, e4, e5, e6, e7, e8, e9, e10⟩ := blk11 sF
   (try simp only [Exit.inBlock, Exit.then])
   refine bodyPost_ret (by simp [results, Tryz.results144, go_sem, e0, e1, e2, e3, e4, e5, e6, e7, e8, e9, e10]; try rfl) rfl ?_
   exact ⟨by rfl, bF⟩
end Go.Proofs.YtegnfkbmlalkeaaGreat.confi
namespace Go.Proofs.YtegnfkbmlalkeaaGreat.ref12
open Go Go.RowKit Go.Proofs.YtegnfkbmlalkeaaGreat.kit Go.Proofs.YtegnfkbmlalkeaaGreat.nums Go.Proofs.YtegnfkbmlalkeaaGreat.cf Go.Proofs.YtegnfkbmlalkeaaGreat.lg
set_option linter.unusedVariables false
set_option linter.unusedSimpArgs false
set_option maxHeartbeats 2000000 in
theorem rmay_any (L : LgL) (A : Option Addr) (n c : Nat) (w : World) (B : Nat) (hR : RdE w B A n L.es) (hB : B ≤ w.heap.size) (hn : n ≤ 1099511627776) : Calls Tryz.prog 107 #[lgV L (.slice A n c)] w fun e w' => e = .returned (.bool (mayF L)) ∧ Below w.heap.size w w' := by
 have HR := Lib.hid hR
 have hl := hR.1
 have hBs := Lib.hid hB
 have HD : Hid (∀ (q : Int) (i : Nat) (x : EnL), L.es[i]? = some x → mayE q (L.es.drop i) = (withB x.t q && mayE x.t (L.es.drop (i + 1)))) := fun q i x h => mayE_drop h
 have HE : Hid (∀ q, mayE q (L.es.drop n) = true) := fun q => by rw [List.drop_of_length_le (by rw [hl]; exact Nat.le_refl _)]; rfl
 have HZ : Hid (∀ q, mayE q L.es = mayE q (L.es.drop 0)) := fun q => rfl
 have hFr : mayF L = (withB L.b 0 && (withB L.t 0 && mayE (max L.t 1) L.es)) := rfl
 generalize mayF L = RES at *
 clear hR hB hl
 unfold lgV at *
 obtain ⟨b, t, j, es⟩ := L
 dsimp only at *
 have k0 : Blk 30 (w.alloc (.cells #[.int .i64 b, .int .i64 t, j0 j, j1 j, j2 j, j3 j, j4 j, j5 j, j6 j, j7 j, j8 j, j9 j, j10 j, .slice A n c] 30)) w.heap.size [.int .i64 b, .int .i64 t, j0 j, j1 j, j2 j, j3 j, j4 j, j5 j, j6 j, j7 j, j8 j, j9 j, j10 j, .slice A n c] := (heap_alloc_new w (.cells #[.int .i64 b, .int .i64 t, j0 j, j1 j, j2 j, j3 j, j4 j, j5 j, j6 j, j7 j, j8 j, j9 j, j10 j, .slice A n c] 30))
 have hB : Below w.heap.size w (w.alloc (.cells #[.int .i64 b, .int .i64 t, j0 j, j1 j, j2 j, j3 j, j4 j, j5 j, j6 j, j7 j, j8 j, j9 j, j10 j, .slice A n c] 30)) := ((Below.refl w.heap.size w).alloc (by first | exact Nat.le_refl _ | (simp; done) | (simp; omega)) (.cells #[.int .i64 b, .int .i64 t, j0 j, j1 j, j2 j, j3 j, j4 j, j5 j, j6 j, j7 j, j8 j, j9 j, j10 j, .slice A n c] 30))
 have HB := Lib.hid hB
 have HS : Hid (∀ wq, Below (w.alloc (.cells #[.int .i64 b, .int .i64 t, j0 j, j1 j, j2 j, j3 j, j4 j, j5 j, j6 j, j7 j, j8 j, j9 j, j10 j, .slice A n c] 30)).heap.size (w.alloc (.cells #[.int .i64 b, .int .i64 t, j0 j, j1 j, j2 j, j3 j, j4 j, j5 j, j6 j, j7 j, j8 j, j9 j, j10 j, .slice A n c] 30)) wq → (wq.cell? ⟨w.heap.size, 0, none⟩ = some (.int .i64 b) ∧ wq.cell? ⟨w.heap.size, 1, none⟩ = some (.int .i64 t) ∧ wq.cell? ⟨w.heap.size, 2, none⟩ = some (j0 j) ∧ wq.cell? ⟨w.heap.size, 3, none⟩ = some (j1 j) ∧ wq.cell? ⟨w.heap.size, 4, none⟩ = some (j2 j) ∧ wq.cell? ⟨w.heap.size, 5, none⟩ = some (j3 j) ∧ wq.cell? ⟨w.heap.size, 6, none⟩ = some (j4 j) ∧ wq.cell? ⟨w.heap.size, 7, none⟩ = some (j5 j) ∧ wq.cell? ⟨w.heap.size, 8, none⟩ = some (j6 j) ∧ wq.cell? ⟨w.heap.size, 9, none⟩ = some (j7 j) ∧ wq.cell? ⟨w.heap.size, 10, none⟩ = some (j8 j) ∧ wq.cell? ⟨w.heap.size, 11, none⟩ = some (j9 j) ∧ wq.cell? ⟨w.heap.size, 12, none⟩ = some (j10 j) ∧ wq.cell? ⟨w.heap.size, 13, none⟩ = some (.slice A n c))) := fun wq hq => blk14 (k0.below hq k0.lt)
 have q0 := Below.refl (w.alloc (.cells #[.int .i64 b, .int .i64 t, j0 j, j1 j, j2 j, j3 j, j4 j, j5 j, j6 j, j7 j, j8 j, j9 j, j10 j, .slice A n c] 30)).heap.size (w.alloc (.cells #[.int .i64 b, .int .i64 t, j0 j, j1 j, j2 j, j3 j, j4 j, j5 j, j6 j, j7 j, j8 j, j9 j, j10 j, .slice A n c] 30))
 have K0 := Lib.hid k0
 clear hB k0
 by_cases c0 : b < 0
 · have hb : withB b 0 = false := by simp [withB]; omega
   rw [hb] at hFr; simp only [Bool.false_and, Bool.and_false] at hFr
   have HF := Lib.hid hFr
   clear hFr
   go_enter Tryz.func107, Tryz.ntmps107
   go_upto_region 1 with (fail)
   generalize (w.alloc (.cells #[.int .i64 b, .int .i64 t, j0 j, j1 j, j2 j, j3 j, j4 j, j5 j, j6 j, j7 j, j8 j, j9 j, j10 j, .slice A n c] 30)) = w1 at *
   have HR1 := Lib.hid (HR.out.on (HB.out.mono hBs.out) (Nat.le_trans hBs.out HB.out.size))
   have r0 := HS.out _ q0
   go_wp2_with fail
   go_ret
   exact ⟨by rw [HF.out]; rfl, HB.out⟩
 · skip
   by_cases c1 : 1099511627776 < b
   · have hb : withB b 0 = false := by simp [withB]; omega
     rw [hb] at hFr; simp only [Bool.false_and, Bool.and_false] at hFr
     have HF := Lib.hid hFr
     clear hFr
     go_enter Tryz.func107, Tryz.ntmps107
     go_upto_region 1 with (fail)
     generalize (w.alloc (.cells #[.int .i64 b, .int .i64 t, j0 j, j1 j, j2 j, j3 j, j4 j, j5 j, j6 j, j7 j, j8 j, j9 j, j10 j, .slice A n c] 30)) = w1 at *
     have HR1 := Lib.hid (HR.out.on (HB.out.mono hBs.out) (Nat.le_trans hBs.out HB.out.size))
     have r0 := HS.out _ q0
     go_wp2_with fail
     go_ret
     exact ⟨by rw [HF.out]; rfl, HB.out⟩
   · skip
     by_cases c2 : t < 0
     · have hb : withB t 0 = false := by simp [withB]; omega
       rw [hb] at hFr; simp only [Bool.false_and, Bool.and_false] at hFr
       have HF := Lib.hid hFr
       clear hFr
       go_enter Tryz.func107, Tryz.ntmps107
       go_upto_region 1 with (fail)
       generalize (w.alloc (.cells #[.int .i64 b, .int .i64 t, j0 j, j1 j, j2 j, j3 j, j4 j, j5 j, j6 j, j7 j, j8 j, j9 j, j10 j, .slice A n c] 30)) = w1 at *
       have HR1 := Lib.hid (HR.out.on (HB.out.mono hBs.out) (Nat.le_trans hBs.out HB.out.size))
       have r0 := HS.out _ q0
       go_wp2_with fail
       go_ret
       exact ⟨by rw [HF.out]; rfl, HB.out⟩
     · skip
       by_cases c3 : 1099511627776 < t
       · have hb : withB t 0 = false := by simp [withB]; omega
         rw [hb] at hFr; simp only [Bool.false_and, Bool.and_false] at hFr
         have HF := Lib.hid hFr
         clear hFr
         go_enter Tryz.func107, Tryz.ntmps107
         go_upto_region 1 with (fail)
         generalize (w.alloc (.cells #[.int .i64 b, .int .i64 t, j0 j, j1 j, j2 j, j3 j, j4 j, j5 j, j6 j, j7 j, j8 j, j9 j, j10 j, .slice A n c] 30)) = w1 at *
         have HR1 := Lib.hid (HR.out.on (HB.out.mono hBs.out) (Nat.le_trans hBs.out HB.out.size))
         have r0 := HS.out _ q0
         go_wp2_with fail
         go_ret
         exact ⟨by rw [HF.out]; rfl, HB.out⟩
       · skip
         rw [show withB b 0 = true by simp [withB]; omega, show withB t 0 = true by simp [withB]; omega, Bool.true_and, Bool.true_and, HZ.out] at hFr
         by_cases c9 : t < 1
         · have c9 : t < 1 := c9
           rw [show max t 1 = 1 by omega] at hFr
           replace hFr := Lib.hid hFr
           clear HZ
           go_enter Tryz.func107, Tryz.ntmps107
           go_upto_region 1 with (fail)
           generalize (w.alloc (.cells #[.int .i64 b, .int .i64 t, j0 j, j1 j, j2 j, j3 j, j4 j, j5 j, j6 j, j7 j, j8 j, j9 j, j10 j, .slice A n c] 30)) = w1 at *
           have HR1 := Lib.hid (HR.out.on (HB.out.mono hBs.out) (Nat.le_trans hBs.out HB.out.size))
           have r0 := HS.out _ q0
           go_wp2_with fail
           go_loopw [3, 4] (fun tv iv wr => ∃ (i : Nat) (q : Int), i ≤ n ∧ tv = .int .i64 q ∧ iv = .int .i64 (i : Int) ∧ Hid (RES = mayE q (es.drop i)) ∧ wr = w1) (fun _ iv _ => n - (intOf iv).toNat)
           case atStart => exact ⟨0, 1, Nat.zero_le _, rfl, rfl, hFr, rfl⟩
           case round =>
             obtain ⟨i, q, hi, rfl, rfl, HG, rfl⟩ := hrel
             by_cases hin : i < n
             · obtain ⟨bb, oo, x, rfl, hlt, hx, hA⟩ := HR1.out.at_ (j := i) hin
               have c14 := (at14 hA).1
               have hDx := Lib.hid (HD.out q i x hx)
               have hin1 : (i : Int) < (n : Int) := by omega
               clear hA hx HD HE
               by_cases d1 : x.t < q
               · have hFr2 : Hid (RES = false) := by show _ = _; rw [HG.out, hDx.out, show withB x.t q = false by simp [withB]; omega]; rfl
                 clear HG hDx
                 go_wp2_with fail
                 go_ret
                 exact ⟨by rw [hFr2.out]; rfl, HB.out⟩
               · by_cases d2 : 1099511627776 < x.t
                 · have hFr2 : Hid (RES = false) := by show _ = _; rw [HG.out, hDx.out, show withB x.t q = false by simp [withB]; omega]; rfl
                   clear HG hDx
                   go_wp2_with fail
                   go_ret
                   exact ⟨by rw [hFr2.out]; rfl, HB.out⟩
                 · have hFr2 : Hid (RES = mayE x.t (es.drop (i + 1))) := by show _ = _; rw [HG.out, hDx.out, show withB x.t q = true by simp [withB]; omega]; rfl
                   clear HG hDx
                   go_wp2_with fail
                   go_roundw
                   case rel => exact ⟨i + 1, x.t, by omega, rfl, by go_num, hFr2, trivial⟩
                   case measure => simp [intOf] <;> omega
             · obtain rfl : i = n := by omega
               have hFr2 : Hid (RES = true) := by show _ = _; rw [HG.out, HE.out]
               clear HG HE HD
               go_wp2_with fail
               go_ret
               exact ⟨by rw [hFr2.out]; rfl, HB.out⟩
         · have c9 : ¬ (t < 1) := c9
           rw [show max t 1 = t by omega] at hFr
           replace hFr := Lib.hid hFr
           clear HZ
           go_enter Tryz.func107, Tryz.ntmps107
           go_upto_region 1 with (fail)
           generalize (w.alloc (.cells #[.int .i64 b, .int .i64 t, j0 j, j1 j, j2 j, j3 j, j4 j, j5 j, j6 j, j7 j, j8 j, j9 j, j10 j, .slice A n c] 30)) = w1 at *
           have HR1 := Lib.hid (HR.out.on (HB.out.mono hBs.out) (Nat.le_trans hBs.out HB.out.size))
           have r0 := HS.out _ q0
           go_wp2_with fail
           go_loopw [3, 4] (fun tv iv wr => ∃ (i : Nat) (q : Int), i ≤ n ∧ tv = .int .i64 q ∧ iv = .int .i64 (i : Int) ∧ Hid (RES = mayE q (es.drop i)) ∧ wr = w1) (fun _ iv _ => n - (intOf iv).toNat)
           case atStart => exact ⟨0, t, Nat.zero_le _, rfl, rfl, hFr, rfl⟩
           case round =>
             obtain ⟨i, q, hi, rfl, rfl, HG, rfl⟩ := hrel
             by_cases hin : i < n
             · obtain ⟨bb, oo, x, rfl, hlt, hx, hA⟩ := HR1.out.at_ (j := i) hin
               have c14 := (at14 hA).1
               have hDx := Lib.hid (HD.out q i x hx)
               have hin1 : (i : Int) < (n : Int) := by omega
               clear hA hx HD HE
               by_cases d1 : x.t < q
               · have hFr2 : Hid (RES = false) := by show _ = _; rw [HG.out, hDx.out, show withB x.t q = false by simp [withB]; omega]; rfl
                 clear HG hDx
                 go_wp2_with fail
                 go_ret
                 exact ⟨by rw [hFr2.out]; rfl, HB.out⟩
               · by_cases d2 : 1099511627776 < x.t
                 · have hFr2 : Hid (RES = false) := by show _ = _; rw [HG.out, hDx.out, show withB x.t q = false by simp [withB]; omega]; rfl
                   clear HG hDx
                   go_wp2_with fail
                   go_ret
                   exact ⟨by rw [hFr2.out]; rfl, HB.out⟩
                 · have hFr2 : Hid (RES = mayE x.t (es.drop (i + 1))) := by show _ = _; rw [HG.out, hDx.out, show withB x.t q = true by simp [withB]; omega]; rfl
                   clear HG hDx
                   go_wp2_with fail
                   go_roundw
                   case rel => exact ⟨i + 1, x.t, by omega, rfl, by go_num, hFr2, trivial⟩
                   case measure => simp [intOf] <;> omega
             · obtain rfl : i = n := by omega
               have hFr2 : Hid (RES = true) := by show _ = _; rw [HG.out, HE.out]
               clear HG HE HD
               go_wp2_with fail
               go_ret
               exact ⟨by rw [hFr2.out]; rfl, HB.out⟩
end Go.Proofs.YtegnfkbmlalkeaaGreat.ref12
namespace Go.Proofs.YtegnfkbmlalkeaaGreat.frame
open Go Go.ChangeShapes Go.WideShapes Go.ChangeAt Go.RowKit Go.Proofs.YtegnfkbmlalkeaaGreat.kit Go.Proofs.YtegnfkbmlalkeaaGreat.nums Go.Proofs.YtegnfkbmlalkeaaGreat.cf Go.Proofs.YtegnfkbmlalkeaaGreat.lg
set_option linter.unusedVariables false
theorem long4 {α : Type} (l : List α) (h : l.length = 4) : ∃ a0 a1 a2 a3, l = [a0, a1, a2, a3] := by
 match l, h with
 | [a0, a1, a2, a3], _ => exact ⟨a0, a1, a2, a3, rfl⟩
theorem long14 {α : Type} (l : List α) (h : l.length = 14) : ∃ a0 a1 a2 a3 a4 a5 a6 a7 a8 a9 a10 a11 a12 a13, l = [a0, a1, a2, a3, a4, a5, a6, a7, a8, a9, a10, a11, a12, a13] := by
 match l, h with
 | [a0, a1, a2, a3, a4, a5, a6, a7, a8, a9, a10, a11, a12, a13], _ => exact ⟨a0, a1, a2, a3, a4, a5, a6, a7, a8, a9, a10, a11, a12, a13, rfl⟩
theorem textc_of_trod {H : Type} {enc : TypeId × Value → H} {W : World} {n : Nat} {v : Value} {y : DataW H × List MemPlace} (h : DataW.trod enc Tryz.prog W 0 (fun _ => true) true n 9 [v] = some y) : ∃ z, v = .string z := by
 obtain ⟨T, h2, _, hsz⟩ := DataW.trod_string Tryz.underlying9 h
 simp at h2
 exact ⟨T, h2⟩
end Go.Proofs.YtegnfkbmlalkeaaGreat.frame
