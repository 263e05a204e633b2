/- The document's Same of two cores that are the same. Conditions: none. -/
import Derived.Deep.RegionHeld3
import Derived.Deep.Cut
import Derived.Lib.Hide
import Derived.Test.YtegnfkbmlalkeaaGreatSbKitRn
import Derived.Test.YtegnfkbmlalkeaaGreatSbKitLg
import Derived.Test.YtegnfkbmlalkeaaGreatSbJ0
import Derived.Test.YtegnfkbmlalkeaaGreatSbTail
import Derived.Test.YtegnfkbmlalkeaaGreatSbJ2
import Derived.Test.YtegnfkbmlalkeaaGreatSbRef9
import Derived.Test.YtegnfkbmlalkeaaGreatSbRefE12
import Derived.Test.YtegnfkbmlalkeaaGreatSbJ3
import Derived.Test.YtegnfkbmlalkeaaGreatSbCo
import Derived.Test.YtegnfkbmlalkeaaGreatSbRefG12
import Derived.Test.YtegnfkbmlalkeaaGreatSbRefGc12
namespace Go.Proofs.YtegnfkbmlalkeaaGreat.kit
open Go Go.RowKit Go.Proofs.YtegnfkbmlalkeaaGreat.kit Go.Proofs.YtegnfkbmlalkeaaGreat.nums Go.Proofs.YtegnfkbmlalkeaaGreat.cf Go.Proofs.YtegnfkbmlalkeaaGreat.lg Go.Proofs.YtegnfkbmlalkeaaGreat.cr
set_option linter.unusedVariables false
theorem OwnM.form {w : World} {base : Nat} {v : Value} {xs : List (MsL × Value)} (h : OwnM w base v xs) : ∃ A c, v = .slice A xs.length c := by
 rcases h.2 with ⟨hv, hn⟩ | ⟨q, cap, cur, rfl, _⟩
 · exact ⟨none, 0, by rw [hv, hn]⟩
 · exact ⟨_, cap, rfl⟩
theorem OwnM.nil (w : World) (base : Nat) : OwnM w base (.slice none 0 0) [] := World.ownsRow_nil w base _ 22
theorem run_app_M (w : World) (base : Nat) (ty : TypeId) (A : Option Addr) (n c : Nat) (xs : List (MsL × Value)) (hn : xs.length = n) (hown : OwnM w base (.slice A n c) xs) (g : Nat) (x : MsL) (Am : Option Addr) (nm pm : Nat) (hx : Blk 49 w g (msC x (.slice Am nm pm))) (hb : n ≤ 100000) (hbase : base ≤ w.heap.size) :
   ∃ v w', (Builtin.append_ #[38, 38] ty #[.slice A n c, .slice (some ⟨g, 0, none⟩) 1 1]).run Tryz.prog w = .ok v w' ∧ (∃ A' c', v = .slice A' (n + 1) c') ∧ OwnM w' base v (xs ++ [(x, .slice Am nm pm)]) ∧ w.grownBy w' (Value.ownBlock (.slice A n c)) ∧ (∀ k, v.ownBlock = some k → (Value.slice A n c).ownBlock = some k ∨ w.heap.size ≤ k) ∧ Below base w w' := by
 subst hn
 have hR : RdK w w.heap.size (some ⟨g, 0, none⟩) 1 22 (msC x (.slice Am nm pm)) := ⟨rfl, fun _ => ⟨g, 0, rfl, hx.lt, fun j u hu => by rw [Nat.zero_add, hx.cell]; exact hu⟩⟩
 have h1 : ∀ u ∈ msC x (.slice Am nm pm), u.oneCell' = true := fun u hu => List.all_eq_true.1 (ms_one x) u hu
 obtain ⟨A', c', w', hrun, h3, h4, h5⟩ := run_append_k (P := Tryz.prog) w base 38 ty 49 _ 22 168 Tryz.underlying38 infoM rfl (by omega) A xs.length c _ hown w.heap.size (some ⟨g, 0, none⟩) 1 1 _ hR h1 (by omega) (by unfold maxLen; omega) hbase
 have h6 := run_append_fresh_k (P := Tryz.prog) w base 38 ty 49 _ 22 168 Tryz.underlying38 infoM rfl (by omega) A xs.length c _ hown w.heap.size (some ⟨g, 0, none⟩) 1 1 _ hR h1 (by omega) (by unfold maxLen; omega) hrun
 refine ⟨_, w', hrun, ⟨A', c', rfl⟩, ?_, h5, h6, h4⟩
 unfold OwnM
 rw [List.length_append, List.flatMap_append, List.flatMap_cons, List.flatMap_nil, List.append_nil]
 exact h3
theorem run_bsM (x : MsL) (s : Value) (w : World) : (Instr.buildSlice 38 1 #[(0, msV x s)]).run Tryz.prog w = .ok (.slice (some ⟨w.heap.size, 0, none⟩) 1 1) (w.alloc (.cells (msC x s).toArray 49)) := by kernel_rfl
theorem run_bsM2 (x : MsL) (s : Value) (w : World) : ∃ v w', (Instr.buildSlice 38 1 #[(0, msV x s)]).run Tryz.prog w = .ok v w' ∧ v = .slice (some ⟨w.heap.size, 0, none⟩) 1 1 ∧ Blk 49 w' w.heap.size (msC x s) ∧ Below w.heap.size w w' :=
 ⟨_, _, run_bsM x s w, rfl, heap_alloc_new w _, (Below.refl _ _).alloc (Nat.le_refl _) _⟩
end Go.Proofs.YtegnfkbmlalkeaaGreat.kit
namespace Go.Proofs.YtegnfkbmlalkeaaGreat.kit
open Go Go.RowKit Go.Proofs.YtegnfkbmlalkeaaGreat.kit Go.Proofs.YtegnfkbmlalkeaaGreat.nums Go.Proofs.YtegnfkbmlalkeaaGreat.cf Go.Proofs.YtegnfkbmlalkeaaGreat.lg Go.Proofs.YtegnfkbmlalkeaaGreat.cr
set_option linter.unusedVariables false
theorem j_one (j : JtL) : (jC j).all (·.oneCell') = true := rfl
def zJc : List Value := [.int .u16 0, .int .u16 0, .int .u16 0, .int .i64 0, .int .i64 0, .int .u16 0, .int .u16 0, .int .u16 0, .int .i64 0, .int .i64 0, .bool false]
theorem zeroJv : (Tryz.prog.info? 27).map (·.zero) = some (some (.agg zJc.toArray)) := by kernel_rfl
section
variable {w : World} {ops : Array Oper} {rest : List Oper} {o : Oper} {a : Act} {Q : Exit → Act → World → Prop} {g : Nat} {E : TypeId} {c : CoL} {m : MsL} {x : EnL} {L : LgL} {s v : Value} {j : JtL}
theorem al_J (hgd : o.guard = none) (ho : o.op = .alloc 27)
   (h : ∀ w', Blk 27 w' w.heap.size zJc → Below w.heap.size w w' → Hid (w'.heap.size = w.heap.size + 1) → wpList Tryz.prog ops Q rest (a.put o.dst (.pointer (some ⟨w.heap.size, 0, none⟩))) w') : wpList Tryz.prog ops Q (o :: rest) a w :=
 wpList_al hgd _ ho _ zeroJv zJc rfl h
theorem box_J (hgd : o.guard = none) (p : Operand) (ho : o.op = .box 27 p) (j : JtL) (hx : a.eval p = jV j)
   (h : ∀ w', Blk 27 w' w.heap.size (jC j) → Below w.heap.size w w' → Hid (w'.heap.size = w.heap.size + 1) → wpList Tryz.prog ops Q rest (a.put o.dst (.pointer (some ⟨w.heap.size, 0, none⟩))) w') : wpList Tryz.prog ops Q (o :: rest) a w :=
 wpList_box hgd _ p ho _ hx h
theorem st_Jv (hgd : o.guard = none) (q v : Operand) (ho : o.op = .store 27 q v) (j : JtL) (hp : a.eval q = .pointer (some ⟨g, 0, none⟩)) (hv : a.eval v = jV j) (old : List Value) (hK : Blk E w g old) (hl : old.length = 11)
   (h : ∀ w', Blk E w' g (jC j) → Put w w' g → wpList Tryz.prog ops Q rest (a.put o.dst undef) w') : wpList Tryz.prog ops Q (o :: rest) a w :=
 wpList_st hgd _ q v ho g _ old E hp hv hK sizeJv hl (j_one j) h
theorem lo_J (p : Operand) (ho : o.op = .load 27 p) (hw : Region.wanted o (yielded ops a.tmps) = true) (hp : a.eval p = .pointer (some ⟨g, 0, none⟩)) (hK : Blk E w g (jC j))
   (h : wpList Tryz.prog ops Q rest (a.put o.dst (jV j)) w) : wpList Tryz.prog ops Q (o :: rest) a w :=
 wpList_ldw hw _ p ho g (jC j) E hp hK (aggJ _) (sizeJ _) h
theorem rld_J {p : Operand} (ho : o.op = .load 27 p) (hp : a.eval p = .pointer (some ⟨g, 0, none⟩)) (hK : Blk E w g (jC j)) : (execOp a.eval o).run Tryz.prog w = .ok (.value (jV j)) w := run_ldv ho hp hK (aggJ _) (sizeJ _)
theorem lo_cL (p : Operand) (ho : o.op = .load 30 p) (hw : Region.wanted o (yielded ops a.tmps) = true) (hp : a.eval p = .pointer (some ⟨g, 8, none⟩)) (hK : Blk E w g (crC c s))
   (h : wpList Tryz.prog ops Q rest (a.put o.dst (lgV c.lg s)) w) : wpList Tryz.prog ops Q (o :: rest) a w := wpList_ldAt p ho hw hp (at_cL hK) (aggL _) (sizeL _) h
theorem lo_cJ (p : Operand) (ho : o.op = .load 27 p) (hw : Region.wanted o (yielded ops a.tmps) = true) (hp : a.eval p = .pointer (some ⟨g, 10, none⟩)) (hK : Blk E w g (crC c s))
   (h : wpList Tryz.prog ops Q rest (a.put o.dst (jV c.lg.j)) w) : wpList Tryz.prog ops Q (o :: rest) a w := wpList_ldAt p ho hw hp (at_cJ hK) (aggJ _) (sizeJ _) h
theorem lo_mJ (p : Operand) (ho : o.op = .load 27 p) (hw : Region.wanted o (yielded ops a.tmps) = true) (hp : a.eval p = .pointer (some ⟨g, 11, none⟩)) (hK : Blk E w g (msC m s))
   (h : wpList Tryz.prog ops Q rest (a.put o.dst (jV m.j)) w) : wpList Tryz.prog ops Q (o :: rest) a w := wpList_ldAt p ho hw hp (at_mJ hK) (aggJ _) (sizeJ _) h
theorem lo_lJ (p : Operand) (ho : o.op = .load 27 p) (hw : Region.wanted o (yielded ops a.tmps) = true) (hp : a.eval p = .pointer (some ⟨g, 2, none⟩)) (hK : Blk E w g (lgC L s))
   (h : wpList Tryz.prog ops Q rest (a.put o.dst (jV L.j)) w) : wpList Tryz.prog ops Q (o :: rest) a w := wpList_ldAt p ho hw hp (at_jL hK) (aggJ _) (sizeJ _) h
theorem rld_cL {p : Operand} (ho : o.op = .load 30 p) (hp : a.eval p = .pointer (some ⟨g, 8, none⟩)) (hK : Blk E w g (crC c s)) : (execOp a.eval o).run Tryz.prog w = .ok (.value (lgV c.lg s)) w := run_ldAt ho hp (at_cL hK) (aggL _) (sizeL _)
theorem rld_cJ {p : Operand} (ho : o.op = .load 27 p) (hp : a.eval p = .pointer (some ⟨g, 10, none⟩)) (hK : Blk E w g (crC c s)) : (execOp a.eval o).run Tryz.prog w = .ok (.value (jV c.lg.j)) w := run_ldAt ho hp (at_cJ hK) (aggJ _) (sizeJ _)
end
theorem ldJv {P : Program} {E : TypeId} {w : World} {g : Nat} {j : JtL} (h : Blk E w g (jC j)) : (loadCellsFrom ⟨g, 0, none⟩ 0 11 #[]).run P w = .ok (jC j).toArray w :=
 run_loadCells_list (P := P) w ⟨g, 0, none⟩ (jC j) (fun i v hv => by rw [Addr.add_lit, Nat.zero_add, h.cell]; exact hv)
theorem ldCv {P : Program} {E : TypeId} {w : World} {g : Nat} {c : CoL} {s : Value} (h : Blk E w g (crC c s)) : (loadCellsFrom ⟨g, 0, none⟩ 0 45 #[]).run P w = .ok (crC c s).toArray w :=
 run_loadCells_list (P := P) w ⟨g, 0, none⟩ (crC c s) (fun i v hv => by rw [Addr.add_lit, Nat.zero_add, h.cell]; exact hv)
theorem cr_nx {w : World} {g : Nat} {E : TypeId} {c : CoL} {s : Value} (h : Blk E w g (crC c s)) {k : Nat} (hk : k < 10) : w.cell? ⟨g, 25 + k, none⟩ = some (.int .i64 (c.nx k)) := at_cN h k _ (a10_get c.nx hk)
theorem cr_mt {w : World} {g : Nat} {E : TypeId} {c : CoL} {s : Value} (h : Blk E w g (crC c s)) {k : Nat} (hk : k < 10) : w.cell? ⟨g, 35 + k, none⟩ = some (.int .i64 (c.mt k)) := at_cT h k _ (a10_get c.mt hk)
end Go.Proofs.YtegnfkbmlalkeaaGreat.kit
namespace Go.Proofs.YtegnfkbmlalkeaaGreat.kit
open Go Go.RowKit Go.Proofs.YtegnfkbmlalkeaaGreat.kit Go.Proofs.YtegnfkbmlalkeaaGreat.nums Go.Proofs.YtegnfkbmlalkeaaGreat.cf Go.Proofs.YtegnfkbmlalkeaaGreat.lg Go.Proofs.YtegnfkbmlalkeaaGreat.cr
set_option linter.unusedVariables false
section
variable {w : World} {a : Act} {o : Oper} {p q : Operand} {x y : Int}
theorem rb_max (ho : o.op = .call { callee := .builtin .max, args := #[p, q], argTypes := #[3, 3] }) (ht : o.type = 3) (hp : a.eval p = .int .i64 x) (hq : a.eval q = .int .i64 y) : (execOp a.eval o).run Tryz.prog w = .ok (.value (.int .i64 (max x y))) w := by
 have h0 : (Builtin.max_ #[3, 3] 3 #[.int .i64 x, .int .i64 y]).run Tryz.prog w = .ok (.int .i64 (if x < y then y else x)) w := by go_simp
 have h : (execOp a.eval o).run Tryz.prog w = .ok (.value (.int .i64 (if x < y then y else x))) w := by
   unfold execOp
   simp only [ho, resolve, invoke, builtin, Sem.run_bind, Sem.run_pure, Result.andThen_ok, List.map_toArray, List.map_cons, List.map_nil, hp, hq, ht, h0]
 rw [h, show (if x < y then y else x) = max x y by split <;> omega]
theorem rb_maxz {z : Int} (ho : o.op = .call { callee := .builtin .max, args := #[p, q], argTypes := #[3, 3] }) (ht : o.type = 3) (hp : a.eval p = .int .i64 x) (hq : a.eval q = .int .i64 y) (hz : max x y = z) : (execOp a.eval o).run Tryz.prog w = .ok (.value (.int .i64 z)) w := by subst hz; exact rb_max ho ht hp hq
theorem rb_gtr {b : Bool} (ho : o.op = .binOp .gtr 3 p q 3) (hp : a.eval p = .int .i64 x) (hq : a.eval q = .int .i64 y) (hb : decide (x > y) = b) : (execOp a.eval o).run Tryz.prog w = .ok (.value (.bool b)) w := by
 subst hb
 unfold execOp
 simp only [ho, hp, hq]
 go_simp
end
end Go.Proofs.YtegnfkbmlalkeaaGreat.kit
namespace Go.Proofs.YtegnfkbmlalkeaaGreat.kit
open Go Go.RowKit Go.Proofs.YtegnfkbmlalkeaaGreat.kit Go.Proofs.YtegnfkbmlalkeaaGreat.nums Go.Proofs.YtegnfkbmlalkeaaGreat.cf Go.Proofs.YtegnfkbmlalkeaaGreat.lg Go.Proofs.YtegnfkbmlalkeaaGreat.cr
set_option linter.unusedVariables false
theorem wpList_val {P : Program} {w : World} {ops : Array Oper} {rest : List Oper} {o : Oper} {a : Act} {Q : Exit → Act → World → Prop} {X : Value} (hw : Region.wanted o (yielded ops a.tmps) = true) (hr : (execOp a.eval o).run P w = .ok (.value X) w)
   (h : wpList P ops Q rest (a.put o.dst X) w) : wpList P ops Q (o :: rest) a w := by
 simp only [wpList, hw, if_true]
 left
 unfold Oper.wp
 rw [hr]
 exact h
theorem rb_e0 {w : World} {a : Act} {o : Oper}   (ho : o.op = .build 52 #[(1, .const (.int .i64 0))])  : (execOp a.eval o).run Tryz.prog w = .ok (.value (enV zE)) w := by
 have h : (Instr.build 52 #[(1, .int .i64 0)]).run Tryz.prog w = .ok (enV zE) w := by kernel_rfl
 have hk : ∀ v, a.eval (.const v) = v := fun _ => rfl
 have e : (execOp a.eval o).run Tryz.prog w = ((Instr.build 52 #[(1, .int .i64 0)]).run Tryz.prog w).andThen fun v w' => .ok (.value v) w' := by
   unfold execOp
   simp [ho, hk]
 rw [e, h]; rfl
theorem bd_e0 {w : World} {ops : Array Oper} {rest : List Oper} {o : Oper} {a : Act} {Q : Exit → Act → World → Prop}   (ho : o.op = .build 52 #[(1, .const (.int .i64 0))]) (hw : Region.wanted o (yielded ops a.tmps) = true) 
   (h : wpList Tryz.prog ops Q rest (a.put o.dst (enV zE)) w) : wpList Tryz.prog ops Q (o :: rest) a w := wpList_val hw (rb_e0  ho ) h
theorem rb_ej {w : World} {a : Act} {o : Oper} {q3 : Operand} (j : JtL) (ho : o.op = .build 52 #[(1, .const (.int .i64 2)), (3, q3)]) (h3 : a.eval q3 = jV j) : (execOp a.eval o).run Tryz.prog w = .ok (.value (enV { zE with k := 2, j := j })) w := by
 have h : (Instr.build 52 #[(1, .int .i64 2), (3, jV j)]).run Tryz.prog w = .ok (enV { zE with k := 2, j := j }) w := by kernel_rfl
 have hk : ∀ v, a.eval (.const v) = v := fun _ => rfl
 have e : (execOp a.eval o).run Tryz.prog w = ((Instr.build 52 #[(1, .int .i64 2), (3, jV j)]).run Tryz.prog w).andThen fun v w' => .ok (.value v) w' := by
   unfold execOp
   simp [ho, hk, h3]
 rw [e, h]; rfl
theorem rb_ecmd {w : World} {a : Act} {o : Oper} {q1 q2 : Operand} (k : Int) (d : ByteArray) (ho : o.op = .build 52 #[(1, q1), (2, q2)]) (h1 : a.eval q1 = .int .i64 k) (h2 : a.eval q2 = .string d) : (execOp a.eval o).run Tryz.prog w = .ok (.value (enV { zE with k := k, d := d })) w := by
 have h : (Instr.build 52 #[(1, .int .i64 k), (2, .string d)]).run Tryz.prog w = .ok (enV { zE with k := k, d := d }) w := by kernel_rfl
 have e : (execOp a.eval o).run Tryz.prog w = ((Instr.build 52 #[(1, .int .i64 k), (2, .string d)]).run Tryz.prog w).andThen fun v w' => .ok (.value v) w' := by
   unfold execOp
   simp [ho, h1, h2]
 rw [e, h]; rfl
theorem bd_ecmd {w : World} {ops : Array Oper} {rest : List Oper} {o : Oper} {a : Act} {Q : Exit → Act → World → Prop} {q1 q2 : Operand} (k : Int) (d : ByteArray) (ho : o.op = .build 52 #[(1, q1), (2, q2)]) (hw : Region.wanted o (yielded ops a.tmps) = true) (h1 : a.eval q1 = .int .i64 k) (h2 : a.eval q2 = .string d)
   (h : wpList Tryz.prog ops Q rest (a.put o.dst (enV { zE with k := k, d := d })) w) : wpList Tryz.prog ops Q (o :: rest) a w := wpList_val hw (rb_ecmd k d ho h1 h2) h
theorem rb_econ {w : World} {a : Act} {o : Oper} {q1 q3 : Operand} (k : Int) (j : JtL) (ho : o.op = .build 52 #[(1, q1), (3, q3)]) (h1 : a.eval q1 = .int .i64 k) (h3 : a.eval q3 = jV j) : (execOp a.eval o).run Tryz.prog w = .ok (.value (enV { zE with k := k, j := j })) w := by
 have h : (Instr.build 52 #[(1, .int .i64 k), (3, jV j)]).run Tryz.prog w = .ok (enV { zE with k := k, j := j }) w := by kernel_rfl
 have e : (execOp a.eval o).run Tryz.prog w = ((Instr.build 52 #[(1, .int .i64 k), (3, jV j)]).run Tryz.prog w).andThen fun v w' => .ok (.value v) w' := by
   unfold execOp
   simp [ho, h1, h3]
 rw [e, h]; rfl
theorem bd_econ {w : World} {ops : Array Oper} {rest : List Oper} {o : Oper} {a : Act} {Q : Exit → Act → World → Prop} {q1 q3 : Operand} (k : Int) (j : JtL) (ho : o.op = .build 52 #[(1, q1), (3, q3)]) (hw : Region.wanted o (yielded ops a.tmps) = true) (h1 : a.eval q1 = .int .i64 k) (h3 : a.eval q3 = jV j)
   (h : wpList Tryz.prog ops Q rest (a.put o.dst (enV { zE with k := k, j := j })) w) : wpList Tryz.prog ops Q (o :: rest) a w := wpList_val hw (rb_econ k j ho h1 h3) h
theorem rb_c0 {w : World} {a : Act} {o : Oper}   (ho : o.op = .build 33 #[])  : (execOp a.eval o).run Tryz.prog w = .ok (.value (crV zC (.slice none 0 0))) w := by
 have h : (Instr.build 33 #[]).run Tryz.prog w = .ok (crV zC (.slice none 0 0)) w := by kernel_rfl
 have e : (execOp a.eval o).run Tryz.prog w = ((Instr.build 33 #[]).run Tryz.prog w).andThen fun v w' => .ok (.value v) w' := by
   unfold execOp
   simp [ho]
 rw [e, h]; rfl
theorem bd_c0 {w : World} {ops : Array Oper} {rest : List Oper} {o : Oper} {a : Act} {Q : Exit → Act → World → Prop}   (ho : o.op = .build 33 #[]) (hw : Region.wanted o (yielded ops a.tmps) = true) 
   (h : wpList Tryz.prog ops Q rest (a.put o.dst (crV zC (.slice none 0 0))) w) : wpList Tryz.prog ops Q (o :: rest) a w := wpList_val hw (rb_c0  ho ) h
theorem rb_j0 {w : World} {a : Act} {o : Oper}   (ho : o.op = .build 27 #[])  : (execOp a.eval o).run Tryz.prog w = .ok (.value (jV zeroJ)) w := by
 have h : (Instr.build 27 #[]).run Tryz.prog w = .ok (jV zeroJ) w := by kernel_rfl
 have e : (execOp a.eval o).run Tryz.prog w = ((Instr.build 27 #[]).run Tryz.prog w).andThen fun v w' => .ok (.value v) w' := by
   unfold execOp
   simp [ho]
 rw [e, h]; rfl
theorem bd_j0 {w : World} {ops : Array Oper} {rest : List Oper} {o : Oper} {a : Act} {Q : Exit → Act → World → Prop}   (ho : o.op = .build 27 #[]) (hw : Region.wanted o (yielded ops a.tmps) = true) 
   (h : wpList Tryz.prog ops Q rest (a.put o.dst (jV zeroJ)) w) : wpList Tryz.prog ops Q (o :: rest) a w := wpList_val hw (rb_j0  ho ) h
end Go.Proofs.YtegnfkbmlalkeaaGreat.kit
namespace Go.Proofs.YtegnfkbmlalkeaaGreat.ref13
open Go Go.RowKit Go.Proofs.YtegnfkbmlalkeaaGreat.kit Go.Proofs.YtegnfkbmlalkeaaGreat.nums Go.Proofs.YtegnfkbmlalkeaaGreat.cf Go.Proofs.YtegnfkbmlalkeaaGreat.lg Go.Proofs.YtegnfkbmlalkeaaGreat.cr Go.Proofs.YtegnfkbmlalkeaaGreat.se
set_option linter.unusedVariables false
theorem has_lt (c : CoL) (i : Int) : ∀ k, hasTo c i k < 65536
 | 0 => by show 0 < _; omega
 | k + 1 => by
   unfold hasTo
   split
   · exact withF_lt _ (has_lt c i k)
   · exact has_lt c i k
end Go.Proofs.YtegnfkbmlalkeaaGreat.ref13
namespace Go.Proofs.YtegnfkbmlalkeaaGreat.ref13
open Go Go.RowKit Go.Proofs.YtegnfkbmlalkeaaGreat.kit Go.Proofs.YtegnfkbmlalkeaaGreat.nums Go.Proofs.YtegnfkbmlalkeaaGreat.cf Go.Proofs.YtegnfkbmlalkeaaGreat.lg Go.Proofs.YtegnfkbmlalkeaaGreat.cr Go.Proofs.YtegnfkbmlalkeaaGreat.se
set_option linter.unusedVariables false
def couN : Nat → CoL → CoL
 | 0, d => endC (cntC d)
 | f + 1, d => if atC (cntC d).lg ≤ (cntC d).cm ∧ (conC (cntC d)).two = true then couN f (pushC (cntC d) (fiE (conC (cntC d)))) else endC (cntC d)
theorem couC_N (c : CoL) : couC c = couN 1 c := rfl
theorem seek_top (p : Int → Bool) (lo : Int) (k : Nat) (h : p (lo + ((k + 1 : Nat) : Int)) = false) : seekF p lo (k + 1) = seekF p lo k := by
 show (if p (lo + ((k + 1 : Nat) : Int)) = true then _ else _) = _
 rw [h]; rfl
theorem seek_hit (p : Int → Bool) (lo : Int) (k : Nat) (h : p (lo + ((k + 1 : Nat) : Int)) = true) : seekF p lo (k + 1) = lo + ((k + 1 : Nat) : Int) := by
 show (if p (lo + ((k + 1 : Nat) : Int)) = true then _ else _) = _
 rw [h]; rfl
theorem seek_le (p : Int → Bool) (lo : Int) : ∀ k, lo ≤ seekF p lo k ∧ seekF p lo k ≤ lo + k
 | 0 => by simp [seekF]
 | k + 1 => by
   have := seek_le p lo k
   unfold seekF
   split <;> omega
theorem conC_push (d : CoL) (x : EnL) : conC (pushC d x) = if x.k = 2 then x.j else conC d := by
 unfold conC pushC pushF confF
 rw [List.foldl_append]; rfl
theorem lastF_push (d : CoL) (x : EnL) : lastF (pushC d x).lg = lastF d.lg + 1 := by unfold lastF pushC pushF; simp; omega
theorem good_fin {d : CoL} {N : Nat} (h : GoodN d N) (hN : N ≤ 900000) (ht : (conC d).two = true) : GoodN (pushC d (fiE (conC d))) (N + 1) ∧ (conC (pushC d (fiE (conC d)))).two = false := by
 obtain ⟨h1, h2, h3, h4, h5, h6, h7, h8⟩ := h
 have hc : conC (pushC d (fiE (conC d))) = finalJ (conC d) := by rw [conC_push]; rfl
 have hl := lastF_push d (fiE (conC d))
 have hlen : (pushC d (fiE (conC d))).lg.es.length = d.lg.es.length + 1 := by show (d.lg.es ++ [_]).length = _; simp
 have hf : finalJ (conC d) = ⟨(conC d).b, zeroC, false⟩ := by unfold finalJ; rw [ht]; rfl
 refine ⟨⟨⟨h1.1, h1.2.1, by rw [hlen]; omega⟩, by rw [hlen]; omega, h3, h4, by rw [hc]; exact final_ok h5, ?_, h7, by rw [hl]; exact Int.le_trans h8 (by omega)⟩, by rw [hc, hf]⟩
 rw [hc, hf]
 unfold mayJ
 rw [mayJ_b h6 ht]; rfl
theorem good_cnt {d : CoL} {N : Nat} (h : GoodN d N) : GoodN (cntC d) N := by
 obtain ⟨h1, h2, h3, h4, h5, h6, h7, h8⟩ := h
 have hs := seek_le (cmtP d) d.cm (lastF d.lg - d.cm).toNat
 exact ⟨h1, h2, h3, h4, h5, h6, Int.le_trans h7 hs.1, by show seekF _ _ _ ≤ lastF d.lg; omega⟩
end Go.Proofs.YtegnfkbmlalkeaaGreat.ref13
namespace Go.Proofs.YtegnfkbmlalkeaaGreat.kit
open Go Go.RowKit Go.Proofs.YtegnfkbmlalkeaaGreat.kit Go.Proofs.YtegnfkbmlalkeaaGreat.nums Go.Proofs.YtegnfkbmlalkeaaGreat.cf Go.Proofs.YtegnfkbmlalkeaaGreat.lg Go.Proofs.YtegnfkbmlalkeaaGreat.cr
set_option linter.unusedVariables false
def RdY (w : World) (g : Nat) (o : Rw) (A : Option Addr) (n : Nat) (xs : List Value) : Prop := RdV w w.heap.size A n xs ∧ ∀ b off, 0 < n → A = some ⟨b, off, none⟩ → Ap g o b
section
variable {w w' : World} {g n : Nat} {o o' : Rw} {A : Option Addr} {xs : List Value}
theorem RdV.block {B : Nat} (h : RdV w B A n xs) {b off : Nat} (hn : 0 < n) (e : A = some ⟨b, off, none⟩) : b < B := by
 obtain ⟨b', off', e', hlt, _⟩ := h.2 hn
 rw [e] at e'
 have := Option.some.inj e'
 simp only [Addr.mk.injEq] at this
 omega
theorem RdV.same {B : Nat} (h : RdV w B A n xs) (hb : ∀ b off, 0 < n → A = some ⟨b, off, none⟩ → w'.heap[b]? = w.heap[b]?) : RdV w' B A n xs := ⟨h.1, fun hn => by
 obtain ⟨b, off, e, hlt, hc⟩ := h.2 hn
 refine ⟨b, off, e, hlt, fun j hj => ?_⟩
 have h1 := World.cell?_of_block (a := ⟨b, off + j, none⟩) (hb b off hn e)
 rw [h1]; exact hc j hj⟩
theorem RdY.below (h : RdY w g o A n xs) (hb : Below w.heap.size w w') : RdY w' g o A n xs := ⟨h.1.on hb hb.size, h.2⟩
theorem RdY.put (h : RdY w g o A n xs) (hp : Put w w' g) : RdY w' g o A n xs :=
 ⟨(h.1.same (fun b off h0 e => hp.other b (h.2 b off h0 e).1)).more (by rw [hp.size]; exact Nat.le_refl _), h.2⟩
theorem RdY.of_own {E : TypeId} {base c : Nat} (h : OwnV E w base (.slice A n c) xs) (hn : xs.length = n) (hg : g < base) (ho : ∀ k, o.row = some k → k < base) : RdY w g o A n xs := by
 obtain ⟨A', c', e, _, _, hR⟩ := h.slice
 rw [hn] at e hR
 injection e with e1 _ _
 subst e1
 exact ⟨hR, fun b off h0 e => by
   have hb := (h.lt b (by rw [e]; rfl)).1
   exact ⟨by omega, fun e2 => by have := ho b e2; omega⟩⟩
end
end Go.Proofs.YtegnfkbmlalkeaaGreat.kit
namespace Go.Proofs.YtegnfkbmlalkeaaGreat.ref13
open Go Go.RowKit Go.Proofs.YtegnfkbmlalkeaaGreat.kit Go.Proofs.YtegnfkbmlalkeaaGreat.nums Go.Proofs.YtegnfkbmlalkeaaGreat.cf Go.Proofs.YtegnfkbmlalkeaaGreat.lg Go.Proofs.YtegnfkbmlalkeaaGreat.cr Go.Proofs.YtegnfkbmlalkeaaGreat.se
set_option linter.unusedVariables false
theorem endC_nx (d : CoL) : (endC d).nx = d.nx := by unfold endC; split <;> (try split) <;> rfl
theorem endC_lg (d : CoL) : (endC d).lg = d.lg := by unfold endC; split <;> (try split) <;> rfl
theorem endC_id (d : CoL) : (endC d).id = d.id := by unfold endC; split <;> (try split) <;> rfl
theorem endC_cm (d : CoL) : (endC d).cm = d.cm := by unfold endC; split <;> (try split) <;> rfl
theorem good_end {d : CoL} {N : Nat} (h : GoodN d N) : GoodN (endC d) N := by
 unfold GoodN conC
 rw [endC_lg, endC_id, endC_cm]; exact h
theorem good_more {d : CoL} {N M : Nat} (h : GoodN d N) (hm : N ≤ M) : GoodN d M := ⟨h.1, Nat.le_trans h.2.1 hm, h.2.2⟩
theorem good_cou {c : CoL} {N : Nat} (h : GoodN c N) (hN : N ≤ 900000) : GoodN (couC c) (N + 1) := by
 unfold couC
 dsimp only
 split
 · rename_i hc
   exact good_end (good_cnt (good_fin (good_cnt h) hN hc.2).1)
 · exact good_more (good_end (good_cnt h)) (Nat.le_succ _)
theorem couC_nx (c : CoL) : (couC c).nx = c.nx := by
 unfold couC
 dsimp only
 split
 · rw [endC_nx]; rfl
 · rw [endC_nx]; rfl
theorem upd_lt (f : Nat → Int) (k : Nat) (v : Int) : upd (fun i => if i < k then v else f i) k v = fun i => if i < k + 1 then v else f i := by
 funext i
 show (if i = k then v else if i < k then v else f i) = _
 by_cases h1 : i = k
 · rw [if_pos h1, if_pos (by omega)]
 · by_cases h2 : i < k
   · rw [if_neg h1, if_pos h2, if_pos (by omega)]
   · rw [if_neg h1, if_neg h2, if_neg (by omega)]
def leadA (c : CoL) : CoL := { c with ro := 2, le := c.id, wa := 0, he := 0, nx := fun _ => lastF c.lg + 1, mt := z10 }
theorem good_lead {c : CoL} (h : GoodN c 700000) : GoodN (pushC (leadA c) zE) 700001 := by
 obtain ⟨h1, h2, h3, h4, h5, h6, h7, h8⟩ := h
 have hc : conC (pushC (leadA c) zE) = conC c := by rw [conC_push]; rfl
 have hl := lastF_push (leadA c) zE
 have hlen : (pushC (leadA c) zE).lg.es.length = c.lg.es.length + 1 := by show (c.lg.es ++ [_]).length = _; simp
 exact ⟨⟨h1.1, h1.2.1, by rw [hlen]; omega⟩, by rw [hlen]; omega, h3, h4, by rw [hc]; exact h5, by rw [hc]; exact h6, h7, by rw [hl]; exact Int.le_trans h8 (by show lastF c.lg ≤ lastF c.lg + 1; omega)⟩
end Go.Proofs.YtegnfkbmlalkeaaGreat.ref13
namespace Go.Proofs.YtegnfkbmlalkeaaGreat.ref13
open Go Go.RowKit Go.Proofs.YtegnfkbmlalkeaaGreat.kit Go.Proofs.YtegnfkbmlalkeaaGreat.nums Go.Proofs.YtegnfkbmlalkeaaGreat.cf Go.Proofs.YtegnfkbmlalkeaaGreat.lg Go.Proofs.YtegnfkbmlalkeaaGreat.cr Go.Proofs.YtegnfkbmlalkeaaGreat.se
set_option linter.unusedVariables false
def RdMs (w : World) (v : Value) (ms : List MsL) : Prop := ∃ xs : List (MsL × Value), OwnM w 0 v xs ∧ xs.map Prod.fst = ms ∧ ∀ x ∈ xs, ∃ A n p, x.2 = .slice A n p ∧ n ≤ p ∧ RdE w w.heap.size A n x.1.es
theorem OwnM.more {w : World} {base base' : Nat} {v : Value} {xs : List (MsL × Value)} (h : OwnM w base v xs) (hb : base' ≤ base) : OwnM w base' v xs := by
 refine ⟨h.1, ?_⟩
 rcases h.2 with hn | ⟨q, cap, cur, rfl, hbq, r⟩
 · exact .inl hn
 · exact .inr ⟨q, cap, cur, rfl, Nat.le_trans hb hbq, r⟩
theorem RdMs.below {w w' : World} {v : Value} {ms : List MsL} (h : RdMs w v ms) (hb : Below w.heap.size w w') : RdMs w' v ms := by
 obtain ⟨xs, h4, h6, h7⟩ := h
 exact ⟨xs, h4.same (fun k _ hk => hb.block k hk), h6, fun x hx => by
   obtain ⟨A5, n5, p5, e5, h8, h9⟩ := h7 x hx
   exact ⟨A5, n5, p5, e5, h8, h9.on hb hb.size⟩⟩
theorem RdMs.nil (w : World) : RdMs w (.slice none 0 0) [] := ⟨[], OwnM.nil w 0, rfl, fun x hx => by cases hx⟩
end Go.Proofs.YtegnfkbmlalkeaaGreat.ref13
namespace Go.Proofs.YtegnfkbmlalkeaaGreat.ref13
open Go Go.RowKit Go.Proofs.YtegnfkbmlalkeaaGreat.kit Go.Proofs.YtegnfkbmlalkeaaGreat.nums Go.Proofs.YtegnfkbmlalkeaaGreat.cf Go.Proofs.YtegnfkbmlalkeaaGreat.lg Go.Proofs.YtegnfkbmlalkeaaGreat.cr Go.Proofs.YtegnfkbmlalkeaaGreat.se
set_option linter.unusedVariables false
theorem rb_lss {w : World} {a : Act} {o : Oper} {p q : Operand} {x y : Int} {b : Bool} (ho : o.op = .binOp .lss 3 p q 3) (hp : a.eval p = .int .i64 x) (hq : a.eval q = .int .i64 y) (hb : decide (x < y) = b) : (execOp a.eval o).run Tryz.prog w = .ok (.value (.bool b)) w := by
 subst hb
 unfold execOp
 simp only [ho, hp, hq]
 go_simp
theorem rb_geq {w : World} {a : Act} {o : Oper} {p q : Operand} {x y : Int} {b : Bool} (ho : o.op = .binOp .geq 3 p q 3) (hp : a.eval p = .int .i64 x) (hq : a.eval q = .int .i64 y) (hb : decide (x ≥ y) = b) : (execOp a.eval o).run Tryz.prog w = .ok (.value (.bool b)) w := by
 subst hb
 unfold execOp
 simp only [ho, hp, hq]
 go_simp
end Go.Proofs.YtegnfkbmlalkeaaGreat.ref13
namespace Go.Proofs.YtegnfkbmlalkeaaGreat.ref13
open Go Go.RowKit Go.Proofs.YtegnfkbmlalkeaaGreat.kit Go.Proofs.YtegnfkbmlalkeaaGreat.nums Go.Proofs.YtegnfkbmlalkeaaGreat.cf Go.Proofs.YtegnfkbmlalkeaaGreat.lg Go.Proofs.YtegnfkbmlalkeaaGreat.cr Go.Proofs.YtegnfkbmlalkeaaGreat.se
set_option linter.unusedVariables false
def elB (e : EnL) : Bool := !(e.k == 2) || mayJ e.j
theorem mayG_f {l : LgL} (h : lg.mayF l = false) : mayG l = false := by unfold mayG; rw [h]; rfl
theorem mayG_j {l : LgL} (h : lg.mayF l = true) (hj : mayJ l.j = false) : mayG l = false := by unfold mayG; rw [h, hj]; rfl
theorem mayG_bad {l : LgL} {i : Nat} {x : EnL} (hx : l.es[i]? = some x) (hb : elB x = false) : mayG l = false := by
 unfold mayG; rw [List.all_eq_false.2 ⟨x, List.mem_of_getElem? hx, by show ¬ elB x = true; rw [hb]; simp⟩, Bool.and_false, Bool.and_false]
theorem mayG_good {l : LgL} (h : lg.mayF l = true) (hj : mayJ l.j = true) (hg : ∀ (j : Nat) (x : EnL), l.es[j]? = some x → elB x = true) : mayG l = true := by
 unfold mayG; rw [h, hj, List.all_eq_true.2 (fun x hx => by obtain ⟨j, hj⟩ := List.getElem?_of_mem hx; exact hg j x hj)]; rfl
theorem at_jA {w : World} {b o : Nat} {x : EnL} (h : At w b o (enC x)) : At w b (o + 3) (jC x.j) := fun i u hu => by
 have hi : i < 11 := (List.getElem?_eq_some_iff.1 hu).1
 rw [show o + 3 + i = o + (3 + i) by omega]
 refine h (3 + i) u ?_
 rw [← hu]
 match i, hi with
 | 0, _ => rfl
 | 1, _ => rfl
 | 2, _ => rfl
 | 3, _ => rfl
 | 4, _ => rfl
 | 5, _ => rfl
 | 6, _ => rfl
 | 7, _ => rfl
 | 8, _ => rfl
 | 9, _ => rfl
 | 10, _ => rfl
set_option maxHeartbeats 4000000 in
set_option maxRecDepth 10000 in
theorem maylog_any (l : LgL) (A : Option Addr) (n p : Nat) (w : World) (B : Nat) (hR0 : RdE w B A n l.es) (hB : B ≤ w.heap.size) (hn : n ≤ 1000000000) (hj : l.j.ok) (hok : ∀ x ∈ l.es, x.j.ok) : Calls Tryz.prog 54 #[lgV l (.slice A n p)] w fun e w' => e = .returned (.bool (mayG l)) ∧ Below w.heap.size w w' := by
 have hR := hR0.more hB
 clear hR0 hB
 have HJ := Lib.hid hj
 have HOk := Lib.hid hok
 have hn2 := Lib.hid hn
 have R := hR
 have hlen := Lib.hid hR.len
 clear hj hok hR
 go_enter Tryz.func54, Tryz.ntmps54
 go_wp2_with (refine box_L rfl _ rfl l (.slice A n p) rfl ?_)
 intro y1 kL e1 s1
 clear s1
 have HB := e1
 replace R := R.on e1 e1.size
 clear e1
 obtain ⟨mv, hmv⟩ : ∃ z, lg.mayF l = z := ⟨_, rfl⟩
 replace hmv := Lib.hid hmv
 obtain ⟨mj, hmj⟩ : ∃ z, mayJ l.j = z := ⟨_, rfl⟩
 replace hmj := Lib.hid hmj
 go_wp2_with (first | refine lo_L _ rfl rfl rfl kL ?_ | refine lo_lJ _ rfl rfl rfl kL ?_)
 have CC := ref12.rmay_any l A n p y1 y1.heap.size R (Nat.le_refl _) (by have := hn2.out; omega)
 rw [hmv.out] at CC
 refine (CC).mono ?_
 rintro e y2 ⟨rfl, hY⟩
 replace HB := bt HB hY
 replace kL := kL.b hY
 replace R := R.on hY hY.size
 clear hY
 clear CC
 rcases mv with _ | _
 · skip
   go_wp2_with fail
   go_ret
   rw [mayG_f hmv.out]
   exact ⟨rfl, HB⟩
 go_wp2_with (first | refine lo_L _ rfl rfl rfl kL ?_ | refine lo_lJ _ rfl rfl rfl kL ?_)
 have CC := ref10.mayJ_any l.j y2 HJ.out
 rw [hmj.out] at CC
 refine (CC).mono ?_
 rintro e y3 ⟨rfl, hY⟩
 replace HB := bt HB hY
 replace kL := kL.b hY
 replace R := R.on hY hY.size
 clear hY
 clear CC
 rcases mj with _ | _
 · skip
   go_wp2_with fail
   go_ret
   rw [mayG_j hmv.out hmj.out]
   exact ⟨rfl, HB⟩
 have BkL := Lib.hid kL
 clear kL
 have BR := Lib.hid R
 clear R
 have BH := Lib.hid HB
 clear HB
 go_wp2_with fail
 go_loopw [3] (fun iv wr => ∃ i : Nat, i ≤ n ∧ iv = .int .i64 (i : Int) ∧ Hid (Below y3.heap.size y3 wr) ∧ Hid (∀ (j : Nat) (x : EnL), j < i → l.es[j]? = some x → elB x = true)) (fun iv _ => n - (intOf iv).toNat)
 case atStart => exact ⟨0, by omega, rfl, Lib.hid (Below.refl _ _), Lib.hid (fun j x h => absurd h (by omega))⟩
 case round =>
   obtain ⟨i, hi, rfl, HY, HG⟩ := hrel
   by_cases hin : i < n
   · skip
     have kL := BkL.out.below HY.out BkL.out.lt
     have R := BR.out.on HY.out HY.out.size
     have HB := HY.out
     have ci : (i : Int) < (n : Int) := by omega
     have c0i : (0 : Int) ≤ (i : Int) := by omega
     have wi : IntKind.i64.wrap ((i : Int) + 1) = ((i + 1 : Nat) : Int) := by have := hn2.out; rw [wrap_sm (by omega) (by omega)]; omega
     have cL : wr.cell? ⟨w.heap.size, 13, none⟩ = some (.slice A n p) := kL.cell 13
     obtain ⟨bb, oo, x, hA9, hlt9, hx, hA⟩ := R.at_ hin
     subst hA9
     have hxo := Lib.hid (HOk.out x (List.mem_of_getElem? hx))
     replace hx := Lib.hid hx
     obtain ⟨xk, hxk⟩ : ∃ q, x.k = q := ⟨_, rfl⟩
     replace hxk := Lib.hid hxk
     have ck1 : wr.cell? ⟨bb, oo + i * 14 + 1, none⟩ = some (.int .i64 xk) := by rw [← hxk.out]; exact hA 1 _ rfl
     by_cases hk2 : xk = 2
     · skip
       have hb2 : (xk == 2) = true := by simp [hk2]
       replace hk2 := Lib.hid hk2
       obtain ⟨xj, hxj⟩ : ∃ q, mayJ x.j = q := ⟨_, rfl⟩
       replace hxj := Lib.hid hxj
       have hAj := at_jA hA
       go_wp2_with (first | refine lo_L _ rfl rfl rfl kL ?_ | refine lo_lJ _ rfl rfl rfl kL ?_ | refine wpList_ldAt _ rfl rfl (cells := jC x.j) rfl hAj (aggJ _) (sizeJ _) ?_)
       clear cL ck1 hA hAj
       have CC := ref10.mayJ_any x.j wr hxo.out
       rw [hxj.out] at CC
       refine (CC).mono ?_
       rintro e y51 ⟨rfl, hY⟩
       replace HB := bt HB hY
       replace kL := kL.b hY
       replace R := R.on hY hY.size
       clear hY
       clear CC
       rcases xj with _ | _
       · skip
         have hbad : elB x = false := by unfold elB; rw [hxj.out, hxk.out, hk2.out]; simp
         have hTB := Lib.hid (mayG_bad hx.out hbad)
         clear hbad
         go_wp2_with fail
         go_ret
         rw [hTB.out]
         exact ⟨rfl, BH.out.trans (HB.mono BH.out.size)⟩
       · skip
         have hgood : Hid (elB x = true) := by show _ = _; unfold elB; rw [hxj.out]; simp
         go_wp2_with fail
         go_roundw
         case rel => exact ⟨i + 1, by omega, rfl, Lib.hid HB, Lib.hid (fun j z hj hz => by
           rcases Nat.lt_succ_iff_lt_or_eq.1 hj with h | rfl
           · exact HG.out j z h hz
           · rw [hx.out] at hz; obtain rfl := Option.some.inj hz; exact hgood.out)⟩
         case measure => simp only [intOf]; omega
     · skip
       have hb2 : (xk == 2) = false := by simp [hk2]
       replace hk2 := Lib.hid hk2
       have hgood : Hid (elB x = true) := by show _ = _; unfold elB; rw [hxk.out]; have := hk2.out; simp [this]
       go_wp2_with fail
       go_roundw
       case rel => exact ⟨i + 1, by omega, rfl, Lib.hid HB, Lib.hid (fun j z hj hz => by
         rcases Nat.lt_succ_iff_lt_or_eq.1 hj with h | rfl
         · exact HG.out j z h hz
         · rw [hx.out] at hz; obtain rfl := Option.some.inj hz; exact hgood.out)⟩
       case measure => simp only [intOf]; omega
   · skip
     have kL := BkL.out.below HY.out BkL.out.lt
     have R := BR.out.on HY.out HY.out.size
     have HB := HY.out
     obtain rfl : i = n := by omega
     have ci : ¬ ((i : Int) < (i : Int)) := by omega
     have cL : wr.cell? ⟨w.heap.size, 13, none⟩ = some (.slice A i p) := kL.cell 13
     have hTG := Lib.hid (mayG_good hmv.out hmj.out (fun j x hx => HG.out j x (by have := (List.getElem?_eq_some_iff.1 hx).1; have := hlen.out; omega) hx))
     clear HG
     go_wp2_with fail
     go_ret
     rw [hTG.out]
     exact ⟨rfl, BH.out.trans (HB.mono BH.out.size)⟩
end Go.Proofs.YtegnfkbmlalkeaaGreat.ref13
namespace Go.Proofs.YtegnfkbmlalkeaaGreat.ref13
open Go Go.RowKit Go.Proofs.YtegnfkbmlalkeaaGreat.kit Go.Proofs.YtegnfkbmlalkeaaGreat.nums Go.Proofs.YtegnfkbmlalkeaaGreat.cf Go.Proofs.YtegnfkbmlalkeaaGreat.lg Go.Proofs.YtegnfkbmlalkeaaGreat.cr Go.Proofs.YtegnfkbmlalkeaaGreat.se
set_option linter.unusedVariables false
def sameC (a b : CoL) : Bool := (a.id == b.id) && ((a.ro == b.ro) && ((a.tm == b.tm) && ((a.vo == b.vo) && ((a.le == b.le) && ((a.wa == b.wa) && ((a.cm == b.cm) && ((a.sf == b.sf) && ((a.sn.toList == b.sn.toList) && (((a.vs : Int) == (b.vs : Int)) && (((a.he : Int) == (b.he : Int)) && ((kit.eqT a.nx b.nx) && ((kit.eqT a.mt b.mt) && (eqL a.lg b.lg)))))))))))))
end Go.Proofs.YtegnfkbmlalkeaaGreat.ref13
namespace Go.Proofs.YtegnfkbmlalkeaaGreat.ref13
open Go Go.RowKit Go.Proofs.YtegnfkbmlalkeaaGreat.kit Go.Proofs.YtegnfkbmlalkeaaGreat.nums Go.Proofs.YtegnfkbmlalkeaaGreat.cf Go.Proofs.YtegnfkbmlalkeaaGreat.lg Go.Proofs.YtegnfkbmlalkeaaGreat.cr Go.Proofs.YtegnfkbmlalkeaaGreat.se
set_option linter.unusedVariables false
set_option maxHeartbeats 1000000 in
set_option maxHeartbeats 4000000 in
set_option maxRecDepth 10000 in
theorem same_13 (a b : CoL) (A : Option Addr) (n p : Nat) (A2 : Option Addr) (n2 p2 : Nat) (w : World) (R1 : RdE w w.heap.size A n a.lg.es) (R2 : RdE w w.heap.size A2 n2 b.lg.es) (hn : n ≤ 1000000000) (e0 : (a.id == b.id) = true) (e1 : (a.ro == b.ro) = true) (e2 : (a.tm == b.tm) = true) (e3 : (a.vo == b.vo) = true) (e4 : (a.le == b.le) = true) (e5 : (a.wa == b.wa) = true) (e6 : (a.cm == b.cm) = true) (e7 : (a.sf == b.sf) = true) (e8 : (a.sn.toList == b.sn.toList) = true) (e9 : ((a.vs : Int) == (b.vs : Int)) = true) (e10 : ((a.he : Int) == (b.he : Int)) = true) (e11 : (kit.eqT a.nx b.nx) = true) (e12 : (kit.eqT a.mt b.mt) = true) : Calls Tryz.prog 19 #[crV a (.slice A n p), crV b (.slice A2 n2 p2)] w fun e w' => e = .returned (.bool (sameC a b)) ∧ Below w.heap.size w w' := by
 have HF : Hid (sameC a b = eqL a.lg b.lg) := by show _ = _; unfold sameC; rw [e0, e1, e2, e3, e4, e5, e6, e7, e8, e9, e10, e11, e12]; first | rfl | simp
 obtain ⟨x0, hx0⟩ : ∃ z, a.id = z := ⟨_, rfl⟩
 obtain ⟨x1, hx1⟩ : ∃ z, a.ro = z := ⟨_, rfl⟩
 obtain ⟨x2, hx2⟩ : ∃ z, a.tm = z := ⟨_, rfl⟩
 obtain ⟨x3, hx3⟩ : ∃ z, a.vo = z := ⟨_, rfl⟩
 obtain ⟨x4, hx4⟩ : ∃ z, a.le = z := ⟨_, rfl⟩
 obtain ⟨x5, hx5⟩ : ∃ z, a.wa = z := ⟨_, rfl⟩
 obtain ⟨x6, hx6⟩ : ∃ z, a.cm = z := ⟨_, rfl⟩
 obtain ⟨x7, hx7⟩ : ∃ z, a.sf = z := ⟨_, rfl⟩
 obtain ⟨x8, hx8⟩ : ∃ z, a.sn = z := ⟨_, rfl⟩
 obtain ⟨x9, hx9⟩ : ∃ z, a.vs = z := ⟨_, rfl⟩
 obtain ⟨x10, hx10⟩ : ∃ z, a.he = z := ⟨_, rfl⟩
 obtain ⟨z0, hz0⟩ : ∃ z, b.id = z := ⟨_, rfl⟩
 obtain ⟨z1, hz1⟩ : ∃ z, b.ro = z := ⟨_, rfl⟩
 obtain ⟨z2, hz2⟩ : ∃ z, b.tm = z := ⟨_, rfl⟩
 obtain ⟨z3, hz3⟩ : ∃ z, b.vo = z := ⟨_, rfl⟩
 obtain ⟨z4, hz4⟩ : ∃ z, b.le = z := ⟨_, rfl⟩
 obtain ⟨z5, hz5⟩ : ∃ z, b.wa = z := ⟨_, rfl⟩
 obtain ⟨z6, hz6⟩ : ∃ z, b.cm = z := ⟨_, rfl⟩
 obtain ⟨z7, hz7⟩ : ∃ z, b.sf = z := ⟨_, rfl⟩
 obtain ⟨z8, hz8⟩ : ∃ z, b.sn = z := ⟨_, rfl⟩
 obtain ⟨z9, hz9⟩ : ∃ z, b.vs = z := ⟨_, rfl⟩
 obtain ⟨z10, hz10⟩ : ∃ z, b.he = z := ⟨_, rfl⟩
 rw [hx0, hz0] at e0
 rw [hx1, hz1] at e1
 rw [hx2, hz2] at e2
 rw [hx3, hz3] at e3
 rw [hx4, hz4] at e4
 rw [hx5, hz5] at e5
 rw [hx6, hz6] at e6
 rw [hx7, hz7] at e7
 rw [hx8, hz8] at e8
 rw [hx9, hz9] at e9
 rw [hx10, hz10] at e10
 have hn2 := Lib.hid hn
 clear hn
 go_enter Tryz.func19, Tryz.ntmps19
 go_wp2_with (refine box_C rfl _ rfl a (.slice A n p) rfl ?_)
 intro y1 kA e1 s1
 clear s1
 have HB := e1
 replace R1 := R1.on e1 e1.size
 replace R2 := R2.on e1 e1.size
 clear e1
 go_wp2_with (refine box_C rfl _ rfl b (.slice A2 n2 p2) rfl ?_)
 intro y2 kB e2 s2
 clear s2
 replace HB := bt HB e2
 replace kA := kA.b e2
 replace R1 := R1.on e2 e2.size
 replace R2 := R2.on e2 e2.size
 clear e2
 generalize y1.heap.size = gkB at *
 have ca0 : y2.cell? ⟨w.heap.size, 0, none⟩ = some (Value.int .i64 x0) := by rw [← hx0]; exact kA.cell 0
 have cb0 : y2.cell? ⟨gkB, 0, none⟩ = some (Value.int .i64 z0) := by rw [← hz0]; exact kB.cell 0
 clear hx0 hz0
 have ca1 : y2.cell? ⟨w.heap.size, 1, none⟩ = some (Value.int .i64 x1) := by rw [← hx1]; exact kA.cell 1
 have cb1 : y2.cell? ⟨gkB, 1, none⟩ = some (Value.int .i64 z1) := by rw [← hz1]; exact kB.cell 1
 clear hx1 hz1
 have ca2 : y2.cell? ⟨w.heap.size, 2, none⟩ = some (Value.int .i64 x2) := by rw [← hx2]; exact kA.cell 2
 have cb2 : y2.cell? ⟨gkB, 2, none⟩ = some (Value.int .i64 z2) := by rw [← hz2]; exact kB.cell 2
 clear hx2 hz2
 have ca3 : y2.cell? ⟨w.heap.size, 3, none⟩ = some (Value.int .i64 x3) := by rw [← hx3]; exact kA.cell 3
 have cb3 : y2.cell? ⟨gkB, 3, none⟩ = some (Value.int .i64 z3) := by rw [← hz3]; exact kB.cell 3
 clear hx3 hz3
 have ca4 : y2.cell? ⟨w.heap.size, 4, none⟩ = some (Value.int .i64 x4) := by rw [← hx4]; exact kA.cell 4
 have cb4 : y2.cell? ⟨gkB, 4, none⟩ = some (Value.int .i64 z4) := by rw [← hz4]; exact kB.cell 4
 clear hx4 hz4
 have ca5 : y2.cell? ⟨w.heap.size, 5, none⟩ = some (Value.int .i64 x5) := by rw [← hx5]; exact kA.cell 5
 have cb5 : y2.cell? ⟨gkB, 5, none⟩ = some (Value.int .i64 z5) := by rw [← hz5]; exact kB.cell 5
 clear hx5 hz5
 have ca6 : y2.cell? ⟨w.heap.size, 6, none⟩ = some (Value.int .i64 x6) := by rw [← hx6]; exact kA.cell 6
 have cb6 : y2.cell? ⟨gkB, 6, none⟩ = some (Value.int .i64 z6) := by rw [← hz6]; exact kB.cell 6
 clear hx6 hz6
 have ca7 : y2.cell? ⟨w.heap.size, 7, none⟩ = some (Value.int .i64 x7) := by rw [← hx7]; exact kA.cell 7
 have cb7 : y2.cell? ⟨gkB, 7, none⟩ = some (Value.int .i64 z7) := by rw [← hz7]; exact kB.cell 7
 clear hx7 hz7
 have ca8 : y2.cell? ⟨w.heap.size, 22, none⟩ = some (Value.string x8) := by rw [← hx8]; exact kA.cell 22
 have cb8 : y2.cell? ⟨gkB, 22, none⟩ = some (Value.string z8) := by rw [← hz8]; exact kB.cell 22
 clear hx8 hz8
 have ca9 : y2.cell? ⟨w.heap.size, 23, none⟩ = some (Value.int .u16 (x9 : Int)) := by rw [← hx9]; exact kA.cell 23
 have cb9 : y2.cell? ⟨gkB, 23, none⟩ = some (Value.int .u16 (z9 : Int)) := by rw [← hz9]; exact kB.cell 23
 clear hx9 hz9
 have ca10 : y2.cell? ⟨w.heap.size, 24, none⟩ = some (Value.int .u16 (x10 : Int)) := by rw [← hx10]; exact kA.cell 24
 have cb10 : y2.cell? ⟨gkB, 24, none⟩ = some (Value.int .u16 (z10 : Int)) := by rw [← hz10]; exact kB.cell 24
 clear hx10 hz10
 have hq1 := fun w => kit.eq_ten a.nx b.nx w
 have hq2 := fun w => kit.eq_ten a.mt b.mt w
 unfold a10V at hq1 hq2
 rw [e11] at hq1
 rw [e12] at hq2
 replace e11 := Lib.hid e11
 replace e12 := Lib.hid e12
 obtain ⟨rl, hrl⟩ : ∃ z, eqL a.lg b.lg = z := ⟨_, rfl⟩
 replace hrl := Lib.hid hrl
 have CC := fun (w' : World) (r1 : RdE w' w'.heap.size A n a.lg.es) (r2 : RdE w' w'.heap.size A2 n2 b.lg.es) => ref12.rsame_any a.lg b.lg A n p A2 n2 p2 w' w'.heap.size w'.heap.size r1 (Nat.le_refl _) r2 (Nat.le_refl _) (by have := hn2.out; omega)
 rw [hrl.out] at CC
 replace CC := Lib.hid CC
 go_wp2_with (first | refine lo_C _ rfl rfl rfl kA ?_ | refine lo_cL _ rfl rfl rfl kA ?_ | refine lo_cJ _ rfl rfl rfl kA ?_ | refine lo_C _ rfl rfl rfl kB ?_ | refine lo_cL _ rfl rfl rfl kB ?_ | refine lo_cJ _ rfl rfl rfl kB ?_ | refine wpList_ldAt _ rfl rfl (cells := a10C a.nx) rfl (at_cN kA) (kit.aggT _) (kit.sizeT _) ?_ | refine wpList_ldAt _ rfl rfl (cells := a10C b.nx) rfl (at_cN kB) (kit.aggT _) (kit.sizeT _) ?_ | refine wpList_ldAt _ rfl rfl (cells := a10C a.mt) rfl (at_cT kA) (kit.aggT _) (kit.sizeT _) ?_ | refine wpList_ldAt _ rfl rfl (cells := a10C b.mt) rfl (at_cT kB) (kit.aggT _) (kit.sizeT _) ?_)
 have C2 := CC.out y2 R1 R2
 clear CC
 refine (C2).mono ?_
 rintro e y3 ⟨rfl, hY⟩
 replace HB := bt HB hY
 replace kA := kA.b hY
 replace kB := kB.b hY
 replace R1 := R1.on hY hY.size
 replace R2 := R2.on hY hY.size
 clear hY
 clear C2
 go_wp2_with fail
 go_ret
 refine ⟨?_, HB⟩
 rw [HF.out, hrl.out]
 rfl
end Go.Proofs.YtegnfkbmlalkeaaGreat.ref13
namespace Go.Proofs.YtegnfkbmlalkeaaGreat.ref13
open Go Go.RowKit Go.Proofs.YtegnfkbmlalkeaaGreat.kit Go.Proofs.YtegnfkbmlalkeaaGreat.nums Go.Proofs.YtegnfkbmlalkeaaGreat.cf Go.Proofs.YtegnfkbmlalkeaaGreat.lg Go.Proofs.YtegnfkbmlalkeaaGreat.cr Go.Proofs.YtegnfkbmlalkeaaGreat.se
set_option linter.unusedVariables false
theorem sameC_self (a : CoL) : sameC a a = true := by
 unfold sameC
 have h : kit.eqT a.nx a.nx = true := by unfold kit.eqT; simp
 have h2 : kit.eqT a.mt a.mt = true := by unfold kit.eqT; simp
 rw [h, h2, eqL_self]
 simp
theorem same_eq (a : CoL) (A : Option Addr) (n p : Nat) (A2 : Option Addr) (n2 p2 : Nat) (w : World) (R1 : RdE w w.heap.size A n a.lg.es) (R2 : RdE w w.heap.size A2 n2 a.lg.es) (hn : n ≤ 1000000000) : Calls Tryz.prog 19 #[crV a (.slice A n p), crV a (.slice A2 n2 p2)] w fun e w' => e = .returned (.bool true) ∧ Below w.heap.size w w' := by
 have h : kit.eqT a.nx a.nx = true := by unfold kit.eqT; simp
 have h2 : kit.eqT a.mt a.mt = true := by unfold kit.eqT; simp
 have := same_13 a a A n p A2 n2 p2 w R1 R2 hn (by simp) (by simp) (by simp) (by simp) (by simp) (by simp) (by simp) (by simp) (by simp) (by simp) (by simp) h h2
 rwa [sameC_self] at this
end Go.Proofs.YtegnfkbmlalkeaaGreat.ref13
