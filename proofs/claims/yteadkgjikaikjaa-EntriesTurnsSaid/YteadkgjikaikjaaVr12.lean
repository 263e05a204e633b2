/- Laws of a walk for variables that hold a log or an entry, taken whole: what an allocation, a parameter's box, a load, a store do; the value stays closed. Conditions: those that each theorem names. -/
import Derived.Test.YteadkgjikaikjaaKitW12
namespace Go.Proofs.Yteadkgjikaikjaa.kit
open Go Go.RowKit Go.Proofs.Yteadkgjikaikjaa.nums Go.Proofs.Yteadkgjikaikjaa.cf Go.Proofs.Yteadkgjikaikjaa.lg
set_option linter.unusedVariables false
theorem wrap_sm {x : Int} (h1 : -9223372036854775808 ≤ x) (h2 : x ≤ 9223372036854775807) : IntKind.i64.wrap x = x := by
  rw [IntKind.wrap_i64]; omega
def LOGt : TypeId := 30
def ENTt : TypeId := 37
theorem sizeEv : (Try.prog.info? 37).map (·.size) = some 14 := by kernel_rfl
theorem lg_len (L : LgL) (s : Value) : (lgC L s).length = 14 := rfl
theorem lg_one (L : LgL) {A : Option Addr} {n c : Nat} : (lgC L (.slice A n c)).all (·.oneCell') = true := rfl
theorem en_all (x : EnL) : (enC x).all (·.oneCell') = true := rfl
section
variable {P : Program} {w : World} {ops : Array Oper} {rest : List Oper} {o : Oper} {a : Act} {Q : Exit → Act → World → Prop}
/-- A parameter's box. -/
theorem wpList_box (hgd : o.guard = none) (T : TypeId) (x : Operand) (ho : o.op = .box T x) (cells : Array Value) (hx : a.eval x = .agg cells)
    (h : ∀ w', Blk T w' w.heap.size cells.toList → Below w.heap.size w w' → Hid (w'.heap.size = w.heap.size + 1) → wpList P ops Q rest (a.put o.dst (.pointer (some ⟨w.heap.size, 0, none⟩))) w') : wpList P ops Q (o :: rest) a w := by
  refine wpList_plain hgd fun K hK' => ?_
  unfold Oper.wp execOp
  simp [ho, hx, Instr.box, newVar, newRow, Value.cells]
  refine hK' _ _ (h _ (heap_alloc_new w _) ((Below.refl _ _).alloc (Nat.le_refl _) _) (by show (w.heap.push _).size = _; simp))
end
section
variable {w : World} {ops : Array Oper} {rest : List Oper} {o : Oper} {a : Act} {Q : Exit → Act → World → Prop} {g : Nat} {E : TypeId} {L M : LgL} {s : Value} {x y : EnL}
theorem box_L (hgd : o.guard = none) (p : Operand) (ho : o.op = .box 30 p) (L : LgL) (s : Value) (hx : a.eval p = lgV L s)
    (h : ∀ w', Blk 30 w' w.heap.size (lgC L s) → Below w.heap.size w w' → Hid (w'.heap.size = w.heap.size + 1) → wpList Try.prog ops Q rest (a.put o.dst (.pointer (some ⟨w.heap.size, 0, none⟩))) w') : wpList Try.prog ops Q (o :: rest) a w :=
  wpList_box hgd _ p ho _ hx h
theorem box_E (hgd : o.guard = none) (p : Operand) (ho : o.op = .box 37 p) (x : EnL) (hx : a.eval p = enV x)
    (h : ∀ w', Blk 37 w' w.heap.size (enC x) → Below w.heap.size w w' → Hid (w'.heap.size = w.heap.size + 1) → wpList Try.prog ops Q rest (a.put o.dst (.pointer (some ⟨w.heap.size, 0, none⟩))) w') : wpList Try.prog ops Q (o :: rest) a w :=
  wpList_box hgd _ p ho _ hx h
theorem ld_L (hw : Region.wanted o (yielded ops a.tmps) = true) (p : Operand) (ho : o.op = .load 30 p) (hp : a.eval p = .pointer (some ⟨g, 0, none⟩)) (hK : Blk E w g (lgC L s))
    (h : wpList Try.prog ops Q rest (a.put o.dst (lgV L s)) w) : wpList Try.prog ops Q (o :: rest) a w :=
  wpList_ldw hw _ p ho g (lgC L s) E hp hK (aggL _) (sizeL _) h
theorem ld_E (hw : Region.wanted o (yielded ops a.tmps) = true) (p : Operand) (ho : o.op = .load 37 p) (hp : a.eval p = .pointer (some ⟨g, 0, none⟩)) (hK : Blk E w g (enC x))
    (h : wpList Try.prog ops Q rest (a.put o.dst (enV x)) w) : wpList Try.prog ops Q (o :: rest) a w :=
  wpList_ldw hw _ p ho g (enC x) E hp hK (aggE _) (sizeE _) h
theorem st_L (hgd : o.guard = none) (p v : Operand) (ho : o.op = .store 30 p v) (L : LgL) (A : Option Addr) (n c : Nat) (hp : a.eval p = .pointer (some ⟨g, 0, none⟩)) (hv : a.eval v = lgV L (.slice A n c)) (old : List Value) (hK : Blk E w g old) (hl : old.length = 14)
    (h : ∀ w', Blk E w' g (lgC L (.slice A n c)) → Put w w' g → wpList Try.prog ops Q rest (a.put o.dst undef) w') : wpList Try.prog ops Q (o :: rest) a w :=
  wpList_st hgd _ p v ho g _ old E hp hv hK sizeLv hl (lg_one L) h
theorem st_E (hgd : o.guard = none) (p v : Operand) (ho : o.op = .store 37 p v) (x : EnL) (hp : a.eval p = .pointer (some ⟨g, 0, none⟩)) (hv : a.eval v = enV x) (old : List Value) (hK : Blk E w g old) (hl : old.length = 14)
    (h : ∀ w', Blk E w' g (enC x) → Put w w' g → wpList Try.prog ops Q rest (a.put o.dst undef) w') : wpList Try.prog ops Q (o :: rest) a w :=
  wpList_st hgd _ p v ho g _ old E hp hv hK sizeEv hl (en_all x) h
theorem al_L (hgd : o.guard = none) (ho : o.op = .alloc 30)
    (h : ∀ w', Blk 30 w' w.heap.size zLc → Below w.heap.size w w' → Hid (w'.heap.size = w.heap.size + 1) → wpList Try.prog ops Q rest (a.put o.dst (.pointer (some ⟨w.heap.size, 0, none⟩))) w') : wpList Try.prog ops Q (o :: rest) a w :=
  wpList_al hgd _ ho zLv zeroLv zLc zLv_cells h
def zEc : List Value := [.int .i64 0, .int .i64 0, .string ⟨#[]⟩, .int .u16 0, .int .u16 0, .int .u16 0, .int .i64 0, .int .i64 0, .int .u16 0, .int .u16 0, .int .u16 0, .int .i64 0, .int .i64 0, .bool false]
theorem zEc_en : zEc = enC zE := rfl
theorem zeroEv : (Try.prog.info? 37).map (·.zero) = some (some (.agg zEc.toArray)) := by kernel_rfl
theorem al_E (hgd : o.guard = none) (ho : o.op = .alloc 37)
    (h : ∀ w', Blk 37 w' w.heap.size zEc → Below w.heap.size w w' → Hid (w'.heap.size = w.heap.size + 1) → wpList Try.prog ops Q rest (a.put o.dst (.pointer (some ⟨w.heap.size, 0, none⟩))) w') : wpList Try.prog ops Q (o :: rest) a w :=
  wpList_al hgd _ ho _ zeroEv zEc rfl h
/-- What a load yields, in a drawn region. -/
theorem rld_L {p : Operand} (ho : o.op = .load 30 p) (hp : a.eval p = .pointer (some ⟨g, 0, none⟩)) (hK : Blk E w g (lgC L s)) : (execOp a.eval o).run Try.prog w = .ok (.value (lgV L s)) w := run_ldv ho hp hK (aggL _) (sizeL _)
theorem rld_E {p : Operand} (ho : o.op = .load 37 p) (hp : a.eval p = .pointer (some ⟨g, 0, none⟩)) (hK : Blk E w g (enC x)) : (execOp a.eval o).run Try.prog w = .ok (.value (enV x)) w := run_ldv ho hp hK (aggE _) (sizeE _)
end
/-- What is owned, or read, stays where one block is written that is not its own. -/
theorem RdE.put {w w' : World} {g B n : Nat} {A : Option Addr} {es : List EnL} (h : RdE w B A n es) (hp : Put w w' g) (hg : B ≤ g) : RdE w' B A n es := h.below (hp.below _ _ (Below.refl _ _) hg)
theorem OwnE.put {w w' : World} {g base : Nat} {v : Value} {es : List EnL} (h : OwnE w base v es) (hp : Put w w' g) (hg : g < base) : OwnE w' base v es := h.keep fun q hq => hp.other q (by omega)
/-- A row of entries that lies below the heap's size, not in block g. -/
def RdN (w : World) (g : Nat) (A : Option Addr) (n : Nat) (es : List EnL) : Prop := RdE w w.heap.size A n es ∧ ∀ b o, 0 < n → A = some ⟨b, o, none⟩ → b ≠ g
theorem RdN.rd {w : World} {g n : Nat} {A : Option Addr} {es : List EnL} (h : RdN w g A n es) : RdE w w.heap.size A n es := h.1
theorem RdN.below {w w' : World} {g n : Nat} {A : Option Addr} {es : List EnL} (h : RdN w g A n es) (hb : Below w.heap.size w w') : RdN w' g A n es := ⟨h.1.on hb hb.size, h.2⟩
theorem RdN.put {w w' : World} {g n : Nat} {A : Option Addr} {es : List EnL} (h : RdN w g A n es) (hp : Put w w' g) : RdN w' g A n es := ⟨⟨h.1.1, fun hn => by
  obtain ⟨b, o, e, hlt, hc⟩ := h.1.2 hn
  refine ⟨b, o, e, by rw [hp.size]; exact hlt, fun j x hx q u hu => ?_⟩
  have hk := hp.other b (h.2 b o hn e)
  have := hc j x hx q u hu
  simpa [World.cell?, hk] using this⟩, h.2⟩
theorem RdN.of_rd {w : World} {g B n : Nat} {A : Option Addr} {es : List EnL} (h : RdE w B A n es) (hb : B ≤ g) (hB : B ≤ w.heap.size) : RdN w g A n es := ⟨h.more hB, fun b o hn e => by
  obtain ⟨b', o', e', hlt, _⟩ := h.2 hn
  rw [e] at e'
  have := Option.some.inj e'
  simp only [Addr.mk.injEq] at this
  omega⟩
theorem RdN.of_own {w : World} {g base n c : Nat} {A : Option Addr} {es : List EnL} (h : OwnE w base (.slice A n c) es) (hg : g < base) : RdN w g A n es := ⟨h.cap.2.2.2, fun b o hn e => by
  rcases h.2 with ⟨hv, hn0⟩ | ⟨g', cap, cur, hv, hb, _⟩
  · simp only [Value.slice.injEq] at hv
    rw [hv.1] at e; cases e
  · simp only [Value.slice.injEq] at hv
    rw [hv.1] at e
    have := Option.some.inj e
    simp only [Addr.mk.injEq] at this
    omega⟩
end Go.Proofs.Yteadkgjikaikjaa.kit
