/- The document's Same of two cores that are the same. Conditions: none. -/
import Derived.Deep.RegionHeld3
import Derived.Deep.Cut
import Derived.Lib.Hide
import Derived.Test.YtegnfkbmlalkeaaGreatSpKitRn
import Derived.Test.YtegnfkbmlalkeaaGreatSpKitLg
import Derived.Test.YtegnfkbmlalkeaaGreatSpJ0
import Derived.Test.YtegnfkbmlalkeaaGreatSpJ1
import Derived.Test.YtegnfkbmlalkeaaGreatSpRefH12
import Derived.Test.YtegnfkbmlalkeaaGreatSpRef9
import Derived.Test.YtegnfkbmlalkeaaGreatSpRefK12
import Derived.Test.YtegnfkbmlalkeaaGreatSpRefE12
import Derived.Test.YtegnfkbmlalkeaaGreatSpRefJ12
import Derived.Test.YtegnfkbmlalkeaaGreatSpRef10c
import Derived.Test.YtegnfkbmlalkeaaGreatSpJ2
set_option linter.unusedVariables false
set_option maxHeartbeats 16000000
set_option maxRecDepth 10000
namespace Go.Proofs.YtegnfkbmlalkeaaGreat.kit
open Go Go.RowKit kit nums cf lg cr
theorem OwnM.form {w : World} {base : Nat} {v : Value} {xs : List (MsL × Value)} (h : OwnM w base v xs) : ∃ A c, v = .slice A xs.length c := by
 rcases h.2 with ⟨hv, hn⟩ | ⟨q, cap, cur, rfl, _⟩
 · exact ⟨none, 0, by rw [hv, hn]⟩
 · exact ⟨_, cap, rfl⟩
theorem OwnM.nil (w : World) (base : Nat) : OwnM w base (.slice none 0 0) [] := World.ownsRow_nil w base _ 22
theorem run_app_M (w : World) (base : Nat) (ty : TypeId) (A : Option Addr) (n c : Nat) (xs : List (MsL × Value)) (hn : xs.length = n) (hown : OwnM w base (.slice A n c) xs) (g : Nat) (x : MsL) (Am : Option Addr) (nm pm : Nat) (hx : Blk 49 w g (msC x (.slice Am nm pm))) (hb : n ≤ 100000) (hbase : base ≤ w.heap.size) :
  ∃ v w', (Builtin.append_ #[38, 38] ty #[.slice A n c, .slice (some ⟨g, 0, none⟩) 1 1]).run Tryz.prog w = .ok v w' ∧ (∃ A' c', v = .slice A' (n + 1) c') ∧ OwnM w' base v (xs ++ [(x, .slice Am nm pm)]) ∧ w.grownBy w' (Value.ownBlock (.slice A n c)) ∧ (∀ k, v.ownBlock = some k → (Value.slice A n c).ownBlock = some k ∨ w.heap.size ≤ k) ∧ Below base w w' := by
 subst hn
 have hR : RdK w w.heap.size (some ⟨g, 0, none⟩) 1 22 (msC x (.slice Am nm pm)) := ⟨rfl, fun _ => ⟨g, 0, rfl, hx.lt, fun j u hu => by rw [Nat.zero_add, hx.cell]; exact hu⟩⟩
 have h1 : ∀ u ∈ msC x (.slice Am nm pm), u.oneCell' = true := fun u hu => List.all_eq_true.1 (ms_one x) u hu
 obtain ⟨A', c', w', hrun, h3, h4, h5⟩ := run_append_k (P := Tryz.prog) w base 38 ty 49 _ 22 168 Tryz.underlying38 infoM rfl (by omega) A xs.length c _ hown w.heap.size (some ⟨g, 0, none⟩) 1 1 _ hR h1 (by omega) (by unfold maxLen; omega) hbase
 have h6 := run_append_fresh_k (P := Tryz.prog) w base 38 ty 49 _ 22 168 Tryz.underlying38 infoM rfl (by omega) A xs.length c _ hown w.heap.size (some ⟨g, 0, none⟩) 1 1 _ hR h1 (by omega) (by unfold maxLen; omega) hrun
 refine ⟨_, w', hrun, ⟨A', c', rfl⟩, ?_, h5, h6, h4⟩
 unfold OwnM
 rw [List.length_append, List.flatMap_append, List.flatMap_cons, List.flatMap_nil, List.append_nil]
 exact h3
theorem run_bsM (x : MsL) (s : Value) (w : World) : (Instr.buildSlice 38 1 #[(0, msV x s)]).run Tryz.prog w = .ok (.slice (some ⟨w.heap.size, 0, none⟩) 1 1) (w.alloc (.cells (msC x s).toArray 49)) := by kernel_rfl
section
variable {P : Program} {w : World} {ops : Array Oper} {rest : List Oper} {o : Oper} {a : Act} {K : Act → World → Prop} {Q : Exit → Act → World → Prop} {E : Prop}
theorem step_bsR (hgd : o.guard = none) (x : Operand) (t : TypeId) (ho : o.op = .buildSlice t 1 #[(0, x)]) (X : Value) (hx : a.eval x = X) (R : Value → World → Prop)
  (hrun : ∃ v w', (Instr.buildSlice t 1 #[(0, X)]).run P w = .ok v w' ∧ R v w') (hK : ∀ v w', R v w' → K (a.put o.dst v) w') :
  if Region.wanted o (yielded ops a.tmps) = true then Oper.wp P o a w K Q else E := by
 have hw : Region.wanted o (yielded ops a.tmps) = true := by simp [Region.wanted, hgd]
 rw [if_pos hw]
 obtain ⟨v, w', hr, hR⟩ := hrun
 subst hx
 unfold Oper.wp execOp
 simp only [ho, List.map_toArray, List.map_cons, List.map_nil, Sem.run_bind, Sem.run_pure, hr, Result.andThen_ok]
 exact hK _ _ hR
end
theorem run_bsM2 (x : MsL) (s : Value) (w : World) : ∃ v w', (Instr.buildSlice 38 1 #[(0, msV x s)]).run Tryz.prog w = .ok v w' ∧ v = .slice (some ⟨w.heap.size, 0, none⟩) 1 1 ∧ Blk 49 w' w.heap.size (msC x s) ∧ Below w.heap.size w w' :=
 ⟨_, _, run_bsM x s w, rfl, heap_alloc_new w _, (Below.refl _ _).alloc (Nat.le_refl _) _⟩
section
variable {w w' : World} {g : Nat} {c : CoL} {ms : List MsL} {o : Rw}
theorem Ch.of_grown (hg : w.grownBy w' o.row) : Ch g o w w' := ⟨hg.os, hg.tape, hg.output, hg.size, fun k hk _ ho => hg.block k hk (fun e => ho e.symm)⟩
end
end Go.Proofs.YtegnfkbmlalkeaaGreat.kit
namespace Go.Proofs.YtegnfkbmlalkeaaGreat.kit
open Go Go.RowKit kit nums cf lg cr
theorem j_one (j : JtL) : (jC j).all (·.oneCell') = true := rfl
def zJc : List Value := [.int .u16 0, .int .u16 0, .int .u16 0, .int .i64 0, .int .i64 0, .int .u16 0, .int .u16 0, .int .u16 0, .int .i64 0, .int .i64 0, .bool false]
theorem zeroJv : (Tryz.prog.info? 27).map (·.zero) = some (some (.agg zJc.toArray)) := by kernel_rfl
section
variable {w : World} {ops : Array Oper} {rest : List Oper} {o : Oper} {a : Act} {Q : Exit → Act → World → Prop} {g : Nat} {E : TypeId} {c : CoL} {m : MsL} {x : EnL} {L : LgL} {s v : Value} {j : JtL}
theorem al_J (hgd : o.guard = none) (ho : o.op = .alloc 27)
  (h : ∀ w', Blk 27 w' w.heap.size zJc → Below w.heap.size w w' → Hid (w'.heap.size = w.heap.size + 1) → wpList Tryz.prog ops Q rest (a.put o.dst (.pointer (some ⟨w.heap.size, 0, none⟩))) w') : wpList Tryz.prog ops Q (o :: rest) a w :=
 wpList_al hgd _ ho _ zeroJv zJc rfl h
theorem box_J (hgd : o.guard = none) (p : Operand) (ho : o.op = .box 27 p) (j : JtL) (hx : a.eval p = jV j)
  (h : ∀ w', Blk 27 w' w.heap.size (jC j) → Below w.heap.size w w' → Hid (w'.heap.size = w.heap.size + 1) → wpList Tryz.prog ops Q rest (a.put o.dst (.pointer (some ⟨w.heap.size, 0, none⟩))) w') : wpList Tryz.prog ops Q (o :: rest) a w :=
 wpList_box hgd _ p ho _ hx h
theorem st_Jv (hgd : o.guard = none) (q v : Operand) (ho : o.op = .store 27 q v) (j : JtL) (hp : a.eval q = .pointer (some ⟨g, 0, none⟩)) (hv : a.eval v = jV j) (old : List Value) (hK : Blk E w g old) (hl : old.length = 11)
  (h : ∀ w', Blk E w' g (jC j) → Put w w' g → wpList Tryz.prog ops Q rest (a.put o.dst undef) w') : wpList Tryz.prog ops Q (o :: rest) a w :=
 wpList_st hgd _ q v ho g _ old E hp hv hK sizeJv hl (j_one j) h
theorem lo_J (p : Operand) (ho : o.op = .load 27 p) (hw : Region.wanted o (yielded ops a.tmps) = true) (hp : a.eval p = .pointer (some ⟨g, 0, none⟩)) (hK : Blk E w g (jC j))
  (h : wpList Tryz.prog ops Q rest (a.put o.dst (jV j)) w) : wpList Tryz.prog ops Q (o :: rest) a w :=
 wpList_ldw hw _ p ho g (jC j) E hp hK (aggJ _) (sizeJ _) h
theorem lo_Jj {p : Operand} (hK : Blk E w g (jC j)) (h : wpList Tryz.prog ops Q rest (a.put o.dst (jV j)) w) (ho : o.op = .load 27 p := by rfl) (hw : Region.wanted o (yielded ops a.tmps) = true := by rfl) (hp : a.eval p = .pointer (some ⟨g, 0, none⟩) := by rfl) : wpList Tryz.prog ops Q (o :: rest) a w := lo_J p ho hw hp hK h
theorem rld_J {p : Operand} (ho : o.op = .load 27 p) (hp : a.eval p = .pointer (some ⟨g, 0, none⟩)) (hK : Blk E w g (jC j)) : (execOp a.eval o).run Tryz.prog w = .ok (.value (jV j)) w := run_ldv ho hp hK (aggJ _) (sizeJ _)
theorem lo_rL (p : Operand) (ho : o.op = .load 30 p) (hw : Region.wanted o (yielded ops a.tmps) = true) (hp : a.eval p = .pointer (some ⟨g, 8, none⟩)) (hK : Blk E w g (rnC c s v))
  (h : wpList Tryz.prog ops Q rest (a.put o.dst (lgV c.lg s)) w) : wpList Tryz.prog ops Q (o :: rest) a w := wpList_ldAt p ho hw hp (at_rL hK) (aggL _) (sizeL _) h
theorem lo_rLj {p : Operand} (hK : Blk E w g (rnC c s v)) (h : wpList Tryz.prog ops Q rest (a.put o.dst (lgV c.lg s)) w) (ho : o.op = .load 30 p := by rfl) (hw : Region.wanted o (yielded ops a.tmps) = true := by rfl) (hp : a.eval p = .pointer (some ⟨g, 8, none⟩) := by rfl) : wpList Tryz.prog ops Q (o :: rest) a w := lo_rL p ho hw hp hK h
theorem lo_cL (p : Operand) (ho : o.op = .load 30 p) (hw : Region.wanted o (yielded ops a.tmps) = true) (hp : a.eval p = .pointer (some ⟨g, 8, none⟩)) (hK : Blk E w g (crC c s))
  (h : wpList Tryz.prog ops Q rest (a.put o.dst (lgV c.lg s)) w) : wpList Tryz.prog ops Q (o :: rest) a w := wpList_ldAt p ho hw hp (at_cL hK) (aggL _) (sizeL _) h
theorem lo_cLj {p : Operand} (hK : Blk E w g (crC c s)) (h : wpList Tryz.prog ops Q rest (a.put o.dst (lgV c.lg s)) w) (ho : o.op = .load 30 p := by rfl) (hw : Region.wanted o (yielded ops a.tmps) = true := by rfl) (hp : a.eval p = .pointer (some ⟨g, 8, none⟩) := by rfl) : wpList Tryz.prog ops Q (o :: rest) a w := lo_cL p ho hw hp hK h
theorem lo_cJ (p : Operand) (ho : o.op = .load 27 p) (hw : Region.wanted o (yielded ops a.tmps) = true) (hp : a.eval p = .pointer (some ⟨g, 10, none⟩)) (hK : Blk E w g (crC c s))
  (h : wpList Tryz.prog ops Q rest (a.put o.dst (jV c.lg.j)) w) : wpList Tryz.prog ops Q (o :: rest) a w := wpList_ldAt p ho hw hp (at_cJ hK) (aggJ _) (sizeJ _) h
theorem lo_cJj {p : Operand} (hK : Blk E w g (crC c s)) (h : wpList Tryz.prog ops Q rest (a.put o.dst (jV c.lg.j)) w) (ho : o.op = .load 27 p := by rfl) (hw : Region.wanted o (yielded ops a.tmps) = true := by rfl) (hp : a.eval p = .pointer (some ⟨g, 10, none⟩) := by rfl) : wpList Tryz.prog ops Q (o :: rest) a w := lo_cJ p ho hw hp hK h
theorem lo_mJ (p : Operand) (ho : o.op = .load 27 p) (hw : Region.wanted o (yielded ops a.tmps) = true) (hp : a.eval p = .pointer (some ⟨g, 11, none⟩)) (hK : Blk E w g (msC m s))
  (h : wpList Tryz.prog ops Q rest (a.put o.dst (jV m.j)) w) : wpList Tryz.prog ops Q (o :: rest) a w := wpList_ldAt p ho hw hp (at_mJ hK) (aggJ _) (sizeJ _) h
theorem lo_mJj {p : Operand} (hK : Blk E w g (msC m s)) (h : wpList Tryz.prog ops Q rest (a.put o.dst (jV m.j)) w) (ho : o.op = .load 27 p := by rfl) (hw : Region.wanted o (yielded ops a.tmps) = true := by rfl) (hp : a.eval p = .pointer (some ⟨g, 11, none⟩) := by rfl) : wpList Tryz.prog ops Q (o :: rest) a w := lo_mJ p ho hw hp hK h
theorem lo_rC (p : Operand) (ho : o.op = .load 33 p) (hw : Region.wanted o (yielded ops a.tmps) = true) (hp : a.eval p = .pointer (some ⟨g, 0, none⟩)) (hK : Blk E w g (rnC c s v))
  (h : wpList Tryz.prog ops Q rest (a.put o.dst (crV c s)) w) : wpList Tryz.prog ops Q (o :: rest) a w := wpList_ldAt p ho hw hp (at_rC hK) (aggC _) (sizeC _) h
theorem lo_rCj {p : Operand} (hK : Blk E w g (rnC c s v)) (h : wpList Tryz.prog ops Q rest (a.put o.dst (crV c s)) w) (ho : o.op = .load 33 p := by rfl) (hw : Region.wanted o (yielded ops a.tmps) = true := by rfl) (hp : a.eval p = .pointer (some ⟨g, 0, none⟩) := by rfl) : wpList Tryz.prog ops Q (o :: rest) a w := lo_rC p ho hw hp hK h
theorem lo_lJ (p : Operand) (ho : o.op = .load 27 p) (hw : Region.wanted o (yielded ops a.tmps) = true) (hp : a.eval p = .pointer (some ⟨g, 2, none⟩)) (hK : Blk E w g (lgC L s))
  (h : wpList Tryz.prog ops Q rest (a.put o.dst (jV L.j)) w) : wpList Tryz.prog ops Q (o :: rest) a w := wpList_ldAt p ho hw hp (at_jL hK) (aggJ _) (sizeJ _) h
theorem lo_lJj {p : Operand} (hK : Blk E w g (lgC L s)) (h : wpList Tryz.prog ops Q rest (a.put o.dst (jV L.j)) w) (ho : o.op = .load 27 p := by rfl) (hw : Region.wanted o (yielded ops a.tmps) = true := by rfl) (hp : a.eval p = .pointer (some ⟨g, 2, none⟩) := by rfl) : wpList Tryz.prog ops Q (o :: rest) a w := lo_lJ p ho hw hp hK h
theorem rld_rL {p : Operand} (ho : o.op = .load 30 p) (hp : a.eval p = .pointer (some ⟨g, 8, none⟩)) (hK : Blk E w g (rnC c s v)) : (execOp a.eval o).run Tryz.prog w = .ok (.value (lgV c.lg s)) w := run_ldAt ho hp (at_rL hK) (aggL _) (sizeL _)
theorem rld_rC {p : Operand} (ho : o.op = .load 33 p) (hp : a.eval p = .pointer (some ⟨g, 0, none⟩)) (hK : Blk E w g (rnC c s v)) : (execOp a.eval o).run Tryz.prog w = .ok (.value (crV c s)) w := run_ldAt ho hp (at_rC hK) (aggC _) (sizeC _)
theorem rld_cL {p : Operand} (ho : o.op = .load 30 p) (hp : a.eval p = .pointer (some ⟨g, 8, none⟩)) (hK : Blk E w g (crC c s)) : (execOp a.eval o).run Tryz.prog w = .ok (.value (lgV c.lg s)) w := run_ldAt ho hp (at_cL hK) (aggL _) (sizeL _)
theorem rld_cJ {p : Operand} (ho : o.op = .load 27 p) (hp : a.eval p = .pointer (some ⟨g, 10, none⟩)) (hK : Blk E w g (crC c s)) : (execOp a.eval o).run Tryz.prog w = .ok (.value (jV c.lg.j)) w := run_ldAt ho hp (at_cJ hK) (aggJ _) (sizeJ _)
end
theorem ldJv {P : Program} {E : TypeId} {w : World} {g : Nat} {j : JtL} (h : Blk E w g (jC j)) : (loadCellsFrom ⟨g, 0, none⟩ 0 11 #[]).run P w = .ok (jC j).toArray w :=
 run_loadCells_list (P := P) w ⟨g, 0, none⟩ (jC j) (fun i v hv => by rw [Addr.add_lit, Nat.zero_add, h.cell]; exact hv)
theorem ldCv {P : Program} {E : TypeId} {w : World} {g : Nat} {c : CoL} {s : Value} (h : Blk E w g (crC c s)) : (loadCellsFrom ⟨g, 0, none⟩ 0 45 #[]).run P w = .ok (crC c s).toArray w :=
 run_loadCells_list (P := P) w ⟨g, 0, none⟩ (crC c s) (fun i v hv => by rw [Addr.add_lit, Nat.zero_add, h.cell]; exact hv)
theorem rn_mt {w : World} {g : Nat} {E : TypeId} {c : CoL} {s v : Value} (h : Blk E w g (rnC c s v)) {k : Nat} (hk : k < 10) : w.cell? ⟨g, 35 + k, none⟩ = some (.int .i64 (c.mt k)) := (Blk.at_ (pre := (rnC c s v).take 35) (mid := a10C c.mt) (post := [v]) h) k _ (a10_get c.mt hk)
theorem cr_nx {w : World} {g : Nat} {E : TypeId} {c : CoL} {s : Value} (h : Blk E w g (crC c s)) {k : Nat} (hk : k < 10) : w.cell? ⟨g, 25 + k, none⟩ = some (.int .i64 (c.nx k)) := at_cN h k _ (a10_get c.nx hk)
theorem cr_mt {w : World} {g : Nat} {E : TypeId} {c : CoL} {s : Value} (h : Blk E w g (crC c s)) {k : Nat} (hk : k < 10) : w.cell? ⟨g, 35 + k, none⟩ = some (.int .i64 (c.mt k)) := at_cT h k _ (a10_get c.mt hk)
theorem set_mt {w : World} {g : Nat} {E : TypeId} {c : CoL} {s v : Value} (h : Blk E w g (rnC c s v)) {k : Nat} (hk : k < 10) (z : Int) : Blk E (w.setCell ⟨g, 35 + k, none⟩ (.int .i64 z)) g (rnC { c with mt := upd c.mt k z } s v) := by
 have h2 := h.set_ (35 + k) (.int .i64 z)
 match k, hk with
 | 0, _ => exact h2
 | 1, _ => exact h2
 | 2, _ => exact h2
 | 3, _ => exact h2
 | 4, _ => exact h2
 | 5, _ => exact h2
 | 6, _ => exact h2
 | 7, _ => exact h2
 | 8, _ => exact h2
 | 9, _ => exact h2
end Go.Proofs.YtegnfkbmlalkeaaGreat.kit
namespace Go.Proofs.YtegnfkbmlalkeaaGreat.kit
open Go Go.RowKit kit nums cf lg cr
section
variable {w : World} {a : Act} {o : Oper} {p q : Operand} {x y : Int}
theorem rb_max (ho : o.op = .call { callee := .builtin .max, args := #[p, q], argTypes := #[3, 3] }) (ht : o.type = 3) (hp : a.eval p = .int .i64 x) (hq : a.eval q = .int .i64 y) : (execOp a.eval o).run Tryz.prog w = .ok (.value (.int .i64 (max x y))) w := by
 have h0 : (Builtin.max_ #[3, 3] 3 #[.int .i64 x, .int .i64 y]).run Tryz.prog w = .ok (.int .i64 (if x < y then y else x)) w := by go_simp
 have h : (execOp a.eval o).run Tryz.prog w = .ok (.value (.int .i64 (if x < y then y else x))) w := by
  unfold execOp
  simp only [ho, resolve, invoke, builtin, Sem.run_bind, Sem.run_pure, Result.andThen_ok, List.map_toArray, List.map_cons, List.map_nil, hp, hq, ht, h0]
 rw [h, show (if x < y then y else x) = max x y by split <;> omega]
theorem rb_maxz {z : Int} (ho : o.op = .call { callee := .builtin .max, args := #[p, q], argTypes := #[3, 3] }) (ht : o.type = 3) (hp : a.eval p = .int .i64 x) (hq : a.eval q = .int .i64 y) (hz : max x y = z) : (execOp a.eval o).run Tryz.prog w = .ok (.value (.int .i64 z)) w := by subst hz; exact rb_max ho ht hp hq
theorem rb_gtr {b : Bool} (ho : o.op = .binOp .gtr 3 p q 3) (hp : a.eval p = .int .i64 x) (hq : a.eval q = .int .i64 y) (hb : decide (x > y) = b) : (execOp a.eval o).run Tryz.prog w = .ok (.value (.bool b)) w := by
 subst hb
 unfold execOp
 simp only [ho, hp, hq]
 go_simp
end
end Go.Proofs.YtegnfkbmlalkeaaGreat.kit
namespace Go.Proofs.YtegnfkbmlalkeaaGreat.kit
open Go Go.RowKit kit nums cf lg cr
theorem wpList_val {P : Program} {w : World} {ops : Array Oper} {rest : List Oper} {o : Oper} {a : Act} {Q : Exit → Act → World → Prop} {X : Value} (hw : Region.wanted o (yielded ops a.tmps) = true) (hr : (execOp a.eval o).run P w = .ok (.value X) w)
  (h : wpList P ops Q rest (a.put o.dst X) w) : wpList P ops Q (o :: rest) a w := by
 simp only [wpList, hw, if_true]
 left
 unfold Oper.wp
 rw [hr]
 exact h
theorem rb_snap {w : World} {a : Act} {o : Oper} {q4 q5 q10 q11 q6 q7 : Operand} (b t : Int) (d : ByteArray) (j : JtL) (c s : Int) (ho : o.op = .build 49 #[(0, .const (.int .i64 5)), (4, q4), (5, q5), (10, q10), (11, q11), (6, q6), (7, q7)]) (h4 : a.eval q4 = .int .i64 b) (h5 : a.eval q5 = .int .i64 t) (h10 : a.eval q10 = .string d) (h11 : a.eval q11 = jV j) (h6 : a.eval q6 = .int .i64 c) (h7 : a.eval q7 = .int .i64 s) : (execOp a.eval o).run Tryz.prog w = .ok (.value (msV { zM with k := 5, i := b, lt := t, d := d, j := j, c := c, s := s } (.slice none 0 0))) w := by
 have h : (Instr.build 49 #[(0, .int .i64 5), (4, .int .i64 b), (5, .int .i64 t), (10, .string d), (11, jV j), (6, .int .i64 c), (7, .int .i64 s)]).run Tryz.prog w = .ok (msV { zM with k := 5, i := b, lt := t, d := d, j := j, c := c, s := s } (.slice none 0 0)) w := by kernel_rfl
 have hk : ∀ v, a.eval (.const v) = v := fun _ => rfl
 have e : (execOp a.eval o).run Tryz.prog w = ((Instr.build 49 #[(0, .int .i64 5), (4, .int .i64 b), (5, .int .i64 t), (10, .string d), (11, jV j), (6, .int .i64 c), (7, .int .i64 s)]).run Tryz.prog w).andThen fun v w' => .ok (.value v) w' := by
  unfold execOp
  simp [ho, hk, h4, h5, h10, h11, h6, h7]
 rw [e, h]; rfl
theorem bd_snap {w : World} {ops : Array Oper} {rest : List Oper} {o : Oper} {a : Act} {Q : Exit → Act → World → Prop} {q4 q5 q10 q11 q6 q7 : Operand} (b t : Int) (d : ByteArray) (j : JtL) (c s : Int) (ho : o.op = .build 49 #[(0, .const (.int .i64 5)), (4, q4), (5, q5), (10, q10), (11, q11), (6, q6), (7, q7)]) (hw : Region.wanted o (yielded ops a.tmps) = true) (h4 : a.eval q4 = .int .i64 b) (h5 : a.eval q5 = .int .i64 t) (h10 : a.eval q10 = .string d) (h11 : a.eval q11 = jV j) (h6 : a.eval q6 = .int .i64 c) (h7 : a.eval q7 = .int .i64 s)
  (h : wpList Tryz.prog ops Q rest (a.put o.dst (msV { zM with k := 5, i := b, lt := t, d := d, j := j, c := c, s := s } (.slice none 0 0))) w) : wpList Tryz.prog ops Q (o :: rest) a w := wpList_val hw (rb_snap b t d j c s ho h4 h5 h10 h11 h6 h7) h
theorem rb_app {w : World} {a : Act} {o : Oper} {q4 q5 q9 q6 q7 : Operand} (b t : Int) (A : Option Addr) (n p : Nat) (es : List EnL) (c s : Int) (ho : o.op = .build 49 #[(0, .const (.int .i64 3)), (4, q4), (5, q5), (9, q9), (6, q6), (7, q7)]) (h4 : a.eval q4 = .int .i64 b) (h5 : a.eval q5 = .int .i64 t) (h9 : a.eval q9 = .slice A n p) (h6 : a.eval q6 = .int .i64 c) (h7 : a.eval q7 = .int .i64 s) : (execOp a.eval o).run Tryz.prog w = .ok (.value (msV { zM with k := 3, i := b, lt := t, es := es, c := c, s := s } (.slice A n p))) w := by
 have h : (Instr.build 49 #[(0, .int .i64 3), (4, .int .i64 b), (5, .int .i64 t), (9, .slice A n p), (6, .int .i64 c), (7, .int .i64 s)]).run Tryz.prog w = .ok (msV { zM with k := 3, i := b, lt := t, es := es, c := c, s := s } (.slice A n p)) w := by kernel_rfl
 have hk : ∀ v, a.eval (.const v) = v := fun _ => rfl
 have e : (execOp a.eval o).run Tryz.prog w = ((Instr.build 49 #[(0, .int .i64 3), (4, .int .i64 b), (5, .int .i64 t), (9, .slice A n p), (6, .int .i64 c), (7, .int .i64 s)]).run Tryz.prog w).andThen fun v w' => .ok (.value v) w' := by
  unfold execOp
  simp [ho, hk, h4, h5, h9, h6, h7]
 rw [e, h]; rfl
theorem rb_e0 {w : World} {a : Act} {o : Oper}   (ho : o.op = .build 52 #[(1, .const (.int .i64 0))])  : (execOp a.eval o).run Tryz.prog w = .ok (.value (enV zE)) w := by
 have h : (Instr.build 52 #[(1, .int .i64 0)]).run Tryz.prog w = .ok (enV zE) w := by kernel_rfl
 have hk : ∀ v, a.eval (.const v) = v := fun _ => rfl
 have e : (execOp a.eval o).run Tryz.prog w = ((Instr.build 52 #[(1, .int .i64 0)]).run Tryz.prog w).andThen fun v w' => .ok (.value v) w' := by
  unfold execOp
  simp [ho, hk]
 rw [e, h]; rfl
theorem bd_e0 {w : World} {ops : Array Oper} {rest : List Oper} {o : Oper} {a : Act} {Q : Exit → Act → World → Prop}   (ho : o.op = .build 52 #[(1, .const (.int .i64 0))]) (hw : Region.wanted o (yielded ops a.tmps) = true) 
  (h : wpList Tryz.prog ops Q rest (a.put o.dst (enV zE)) w) : wpList Tryz.prog ops Q (o :: rest) a w := wpList_val hw (rb_e0  ho ) h
theorem rb_ej {w : World} {a : Act} {o : Oper} {q3 : Operand} (j : JtL) (ho : o.op = .build 52 #[(1, .const (.int .i64 2)), (3, q3)]) (h3 : a.eval q3 = jV j) : (execOp a.eval o).run Tryz.prog w = .ok (.value (enV { zE with k := 2, j := j })) w := by
 have h : (Instr.build 52 #[(1, .int .i64 2), (3, jV j)]).run Tryz.prog w = .ok (enV { zE with k := 2, j := j }) w := by kernel_rfl
 have hk : ∀ v, a.eval (.const v) = v := fun _ => rfl
 have e : (execOp a.eval o).run Tryz.prog w = ((Instr.build 52 #[(1, .int .i64 2), (3, jV j)]).run Tryz.prog w).andThen fun v w' => .ok (.value v) w' := by
  unfold execOp
  simp [ho, hk, h3]
 rw [e, h]; rfl
theorem bd_ej {w : World} {ops : Array Oper} {rest : List Oper} {o : Oper} {a : Act} {Q : Exit → Act → World → Prop} {q3 : Operand} (j : JtL) (ho : o.op = .build 52 #[(1, .const (.int .i64 2)), (3, q3)]) (hw : Region.wanted o (yielded ops a.tmps) = true) (h3 : a.eval q3 = jV j)
  (h : wpList Tryz.prog ops Q rest (a.put o.dst (enV { zE with k := 2, j := j })) w) : wpList Tryz.prog ops Q (o :: rest) a w := wpList_val hw (rb_ej j ho h3) h
theorem rb_ecmd {w : World} {a : Act} {o : Oper} {q1 q2 : Operand} (k : Int) (d : ByteArray) (ho : o.op = .build 52 #[(1, q1), (2, q2)]) (h1 : a.eval q1 = .int .i64 k) (h2 : a.eval q2 = .string d) : (execOp a.eval o).run Tryz.prog w = .ok (.value (enV { zE with k := k, d := d })) w := by
 have h : (Instr.build 52 #[(1, .int .i64 k), (2, .string d)]).run Tryz.prog w = .ok (enV { zE with k := k, d := d }) w := by kernel_rfl
 have e : (execOp a.eval o).run Tryz.prog w = ((Instr.build 52 #[(1, .int .i64 k), (2, .string d)]).run Tryz.prog w).andThen fun v w' => .ok (.value v) w' := by
  unfold execOp
  simp [ho, h1, h2]
 rw [e, h]; rfl
theorem bd_ecmd {w : World} {ops : Array Oper} {rest : List Oper} {o : Oper} {a : Act} {Q : Exit → Act → World → Prop} {q1 q2 : Operand} (k : Int) (d : ByteArray) (ho : o.op = .build 52 #[(1, q1), (2, q2)]) (hw : Region.wanted o (yielded ops a.tmps) = true) (h1 : a.eval q1 = .int .i64 k) (h2 : a.eval q2 = .string d)
  (h : wpList Tryz.prog ops Q rest (a.put o.dst (enV { zE with k := k, d := d })) w) : wpList Tryz.prog ops Q (o :: rest) a w := wpList_val hw (rb_ecmd k d ho h1 h2) h
theorem rb_econ {w : World} {a : Act} {o : Oper} {q1 q3 : Operand} (k : Int) (j : JtL) (ho : o.op = .build 52 #[(1, q1), (3, q3)]) (h1 : a.eval q1 = .int .i64 k) (h3 : a.eval q3 = jV j) : (execOp a.eval o).run Tryz.prog w = .ok (.value (enV { zE with k := k, j := j })) w := by
 have h : (Instr.build 52 #[(1, .int .i64 k), (3, jV j)]).run Tryz.prog w = .ok (enV { zE with k := k, j := j }) w := by kernel_rfl
 have e : (execOp a.eval o).run Tryz.prog w = ((Instr.build 52 #[(1, .int .i64 k), (3, jV j)]).run Tryz.prog w).andThen fun v w' => .ok (.value v) w' := by
  unfold execOp
  simp [ho, h1, h3]
 rw [e, h]; rfl
theorem bd_econ {w : World} {ops : Array Oper} {rest : List Oper} {o : Oper} {a : Act} {Q : Exit → Act → World → Prop} {q1 q3 : Operand} (k : Int) (j : JtL) (ho : o.op = .build 52 #[(1, q1), (3, q3)]) (hw : Region.wanted o (yielded ops a.tmps) = true) (h1 : a.eval q1 = .int .i64 k) (h3 : a.eval q3 = jV j)
  (h : wpList Tryz.prog ops Q rest (a.put o.dst (enV { zE with k := k, j := j })) w) : wpList Tryz.prog ops Q (o :: rest) a w := wpList_val hw (rb_econ k j ho h1 h3) h
theorem rb_c0 {w : World} {a : Act} {o : Oper}   (ho : o.op = .build 33 #[])  : (execOp a.eval o).run Tryz.prog w = .ok (.value (crV zC (.slice none 0 0))) w := by
 have h : (Instr.build 33 #[]).run Tryz.prog w = .ok (crV zC (.slice none 0 0)) w := by kernel_rfl
 have e : (execOp a.eval o).run Tryz.prog w = ((Instr.build 33 #[]).run Tryz.prog w).andThen fun v w' => .ok (.value v) w' := by
  unfold execOp
  simp [ho]
 rw [e, h]; rfl
theorem bd_c0 {w : World} {ops : Array Oper} {rest : List Oper} {o : Oper} {a : Act} {Q : Exit → Act → World → Prop}   (ho : o.op = .build 33 #[]) (hw : Region.wanted o (yielded ops a.tmps) = true) 
  (h : wpList Tryz.prog ops Q rest (a.put o.dst (crV zC (.slice none 0 0))) w) : wpList Tryz.prog ops Q (o :: rest) a w := wpList_val hw (rb_c0  ho ) h
theorem rb_j0 {w : World} {a : Act} {o : Oper}   (ho : o.op = .build 27 #[])  : (execOp a.eval o).run Tryz.prog w = .ok (.value (jV zeroJ)) w := by
 have h : (Instr.build 27 #[]).run Tryz.prog w = .ok (jV zeroJ) w := by kernel_rfl
 have e : (execOp a.eval o).run Tryz.prog w = ((Instr.build 27 #[]).run Tryz.prog w).andThen fun v w' => .ok (.value v) w' := by
  unfold execOp
  simp [ho]
 rw [e, h]; rfl
theorem bd_j0 {w : World} {ops : Array Oper} {rest : List Oper} {o : Oper} {a : Act} {Q : Exit → Act → World → Prop}   (ho : o.op = .build 27 #[]) (hw : Region.wanted o (yielded ops a.tmps) = true) 
  (h : wpList Tryz.prog ops Q rest (a.put o.dst (jV zeroJ)) w) : wpList Tryz.prog ops Q (o :: rest) a w := wpList_val hw (rb_j0  ho ) h
end Go.Proofs.YtegnfkbmlalkeaaGreat.kit
namespace Go.Proofs.YtegnfkbmlalkeaaGreat.ref13
open Go Go.RowKit kit nums cf lg cr se
def rnV (c : CoL) (s v : Value) : Value := .agg (rnC c s v).toArray
theorem rb_rn {w : World} {a : Act} {o : Oper} {q0 : Operand} (c : CoL) (A : Option Addr) (n p : Nat) (ho : o.op = .build 99 #[(0, q0)]) (h0 : a.eval q0 = crV c (.slice A n p)) : (execOp a.eval o).run Tryz.prog w = .ok (.value (rnV c (.slice A n p) (.slice none 0 0))) w := by
 have h : (Instr.build 99 #[(0, crV c (.slice A n p))]).run Tryz.prog w = .ok (rnV c (.slice A n p) (.slice none 0 0)) w := by kernel_rfl
 have e : (execOp a.eval o).run Tryz.prog w = ((Instr.build 99 #[(0, crV c (.slice A n p))]).run Tryz.prog w).andThen fun v w' => .ok (.value v) w' := by
  unfold execOp
  simp [ho, h0]
 rw [e, h]; rfl
theorem bd_rn {w : World} {ops : Array Oper} {rest : List Oper} {o : Oper} {a : Act} {Q : Exit → Act → World → Prop} {q0 : Operand} (c : CoL) (A : Option Addr) (n p : Nat) (ho : o.op = .build 99 #[(0, q0)]) (hw : Region.wanted o (yielded ops a.tmps) = true) (h0 : a.eval q0 = crV c (.slice A n p))
  (h : wpList Tryz.prog ops Q rest (a.put o.dst (rnV c (.slice A n p) (.slice none 0 0))) w) : wpList Tryz.prog ops Q (o :: rest) a w := wpList_val hw (rb_rn c A n p ho h0) h
theorem box_rn {w : World} {ops : Array Oper} {rest : List Oper} {o : Oper} {a : Act} {Q : Exit → Act → World → Prop} (hgd : o.guard = none) (p : Operand) (ho : o.op = .box 99 p) (c : CoL) (s v : Value) (hx : a.eval p = rnV c s v)
  (h : ∀ w', Blk 99 w' w.heap.size (rnC c s v) → Below w.heap.size w w' → Hid (w'.heap.size = w.heap.size + 1) → wpList Tryz.prog ops Q rest (a.put o.dst (.pointer (some ⟨w.heap.size, 0, none⟩))) w') : wpList Tryz.prog ops Q (o :: rest) a w :=
 wpList_box hgd _ p ho _ hx h
def RdMs (w : World) (v : Value) (ms : List MsL) : Prop := ∃ xs : List (MsL × Value), OwnM w 0 v xs ∧ xs.map Prod.fst = ms ∧ ∀ x ∈ xs, ∃ A n p, x.2 = .slice A n p ∧ n ≤ p ∧ RdE w w.heap.size A n x.1.es
theorem OwnM.more {w : World} {base base' : Nat} {v : Value} {xs : List (MsL × Value)} (h : OwnM w base v xs) (hb : base' ≤ base) : OwnM w base' v xs := by
 refine ⟨h.1, ?_⟩
 rcases h.2 with hn | ⟨q, cap, cur, rfl, hbq, r⟩
 · exact .inl hn
 · exact .inr ⟨q, cap, cur, rfl, Nat.le_trans hb hbq, r⟩
theorem RdMs.of_run {w : World} {g : Nat} {o : Rw} {A : Option Addr} {n p : Nat} {es : List EnL} {v : Value} {ms : List MsL} (h : RunR w g o A n p es v ms) : RdMs w v ms := by
 obtain ⟨_, _, _, xs, h4, _, h6, h7⟩ := h
 exact ⟨xs, OwnM.more h4 (Nat.zero_le _), h6, fun x hx => by
  obtain ⟨A5, n5, p5, e5, h8, h9⟩ := h7 x hx
  exact ⟨A5, n5, p5, e5, h8, h9.1⟩⟩
theorem RdMs.below {w w' : World} {v : Value} {ms : List MsL} (h : RdMs w v ms) (hb : Below w.heap.size w w') : RdMs w' v ms := by
 obtain ⟨xs, h4, h6, h7⟩ := h
 exact ⟨xs, h4.same (fun k _ hk => hb.block k hk), h6, fun x hx => by
  obtain ⟨A5, n5, p5, e5, h8, h9⟩ := h7 x hx
  exact ⟨A5, n5, p5, e5, h8, h9.on hb hb.size⟩⟩
theorem RdMs.nil (w : World) : RdMs w (.slice none 0 0) [] := ⟨[], OwnM.nil w 0, rfl, fun x hx => by cases hx⟩
theorem begin_any (c : CoL) (A : Option Addr) (n p : Nat) (w : World) (B : Nat) (hR : RdE w B A n c.lg.es) (hB : B ≤ w.heap.size) (hp : n ≤ p) (hf : Fit c.lg) : Calls Tryz.prog 62 #[crV c (.slice A n p)] w fun e w' => ∃ g, e = .returned (.pointer (some ⟨g, 0, none⟩)) ∧ RunI w' g c [] ⟨none, w.heap.size⟩ ∧ Below w.heap.size w w' ∧ w.heap.size ≤ g := by
 have HF := Lh hf
 have R0 := hR.more hB
 clear hR hB hf
 go_enter Tryz.func62, Tryz.ntmps62
 go_wp2_with (refine box_C rfl _ rfl c (.slice A n p) rfl ?_)
 intro y1 kC e1 s1
 clear s1
 have HB := e1
 replace R0 := R0.on e1 e1.size
 clear e1
 go_wp2_with (first | refine lo_Cj kC ?_ | refine lo_cLj kC ?_ | refine lo_cJj kC ?_)
 have CC := ref12.rcopy_any c.lg A n p y1 y1.heap.size R0 (Nat.le_refl _) hp HF.out
 refine CC.mono ?_
 have hgb := Lh kC.lt
 have hlb := Lh HB.size
 rintro e2 y30 ⟨A1, c1, rfl, hO, hY⟩
 clear CC
 replace HB := bt HB hY
 replace kC := kC.b hY
 replace R0 := R0.on hY hY.size
 clear hY
 go_wp2_with (first | (first | refine lo_Cj kC ?_ | refine lo_cLj kC ?_ | refine lo_cJj kC ?_) | refine wpList_stAt rfl 30 _ _ rfl (cells := (lgC c.lg (.slice A1 n c1)).toArray) (crC c (.slice A1 n c1)) rfl rfl kC sizeLv (by show 8 + 14 ≤ 45; omega) (lg_one _) rfl ?_)
 intro y31 kC2 pO
 have HB2 := pO.below _ _ HB (Nat.le_refl _)
 have hO2 := hO.put pO hgb.out
 clear kC HB R0 hO pO
 have kC := kC2
 clear kC2
 go_wp2_with (first | refine lo_Cj kC ?_ | refine bd_rn c A1 n c1 rfl rfl rfl ?_ | refine box_rn rfl _ rfl c (.slice A1 n c1) (.slice none 0 0) rfl ?_)
 intro y32 kR eR sR
 have hbl := Lh eR
 have hX := Lh (RdX.of_old (g := y31.heap.size) (o := ⟨none, w.heap.size⟩) hO2 (Nat.le_refl _) rfl hlb.out)
 have hO3 := hO2.below eR
 have HB := HB2.trans (eR.mono HB2.size)
 have hsz := HB2.size
 clear sR kC HB2 hO2 eR
 go_wp2_with fail
 go_ret
 exact ⟨y31.heap.size, rfl, ⟨A1, n, c1, _, kR, ⟨(hX.out.1.on hbl.out hbl.out.size), hX.out.2⟩, hO3.cap.2.1, hsz, [], OwnM.nil _ _, rfl, rfl, fun x hx => by cases hx⟩, HB, hsz⟩
end Go.Proofs.YtegnfkbmlalkeaaGreat.ref13
namespace Go.Proofs.YtegnfkbmlalkeaaGreat.ref13
open Go Go.RowKit kit nums cf lg cr se
theorem say_any (g : Nat) (c : CoL) (ms : List MsL) (o : Rw) (tn : Int) (m : MsL) (A : Option Addr) (n p : Nat) (w : World) (hI : RunI w g c ms o) (hm : RdX w g o A n m.es) (hp : n ≤ p) (hl : ms.length ≤ 1000) : Calls Tryz.prog 72 #[.pointer (some ⟨g, 0, none⟩), .int .i64 tn, msV m (.slice A n p)] w fun e w' => e = .returned (.tuple #[]) ∧ ∃ o', RunI w' g c (ms ++ [sayF c tn m]) o' ∧ Ch g o w w' ∧ Nx o o' w := by
 have HI := Lh hI
 have Hm := Lh hm
 obtain ⟨A0, n0, p0, v0, kR, hL, hp0, hlo, xs0, hM, ho, hms, hS⟩ := hI
 obtain ⟨Av, cv, hv⟩ := hM.form
 subst hv
 have HL := Lh hL
 have HM := Lh hM
 have HS := Lh hS
 replace ho := Lh ho
 replace hms := Lh hms
 obtain ⟨nx, hnx⟩ : ∃ k, xs0.length = k := ⟨_, rfl⟩
 rw [hnx] at kR ho HM
 have hnx2 : nx ≤ 1000 := by rw [← hnx, ← List.length_map (f := Prod.fst), hms.out]; exact hl
 replace hnx := Lh hnx
 clear hm hL hM hS
 go_enter Tryz.func72, Tryz.ntmps72
 go_wp2_with (refine box_M rfl _ rfl m (.slice A n p) rfl ?_)
 intro y1 kM e1 s1
 clear s1
 have LTkRkM := Lh kR.lt
 have HB := e1
 replace kR := kR.b e1
 clear e1
 go_upto_region 1 with (first | refine lo_Mj kM ?_)
 refine wp_region_held_drew (S := fun wq => wq.cell? ⟨g, 0, none⟩ = some (.int .i64 c.id) ∧ wq.cell? ⟨g, 2, none⟩ = some (.int .i64 c.tm)) (by kernel_rfl) ?s_say1 (fun hHeld => ?_)
 case s_say1 => exact ⟨kR.cell 0, kR.cell 2⟩
 have hD := (Below.refl y1.heap.size y1).drew
 replace HB := bt HB hD
 replace kR := kR.b hD
 replace kM := kM.b hD
 clear hD
 generalize y1.drew = yD at *
 iterate 12 (refine tx 0 _ ?_; try simp only [Act.put, ka, kb, kc])
 refine rr [12] ?_
 refine rc (fun KQ hKQ => ?_) AllReadyH.nil
 have df := fun i => kM.frozen i
 have cM : _ = some _ := kM.cell 1
 go_simp
 have kM2 : Blk 49 _ w.heap.size (msC { m with f := c.id } (.slice A n p)) := kM.set_ 1 (.int .i64 c.id)
 have pO := put_set yD w.heap.size 1 (.int .i64 c.id)
 clear df cM kM
 generalize (yD.setCell ⟨w.heap.size, 1, none⟩ (.int .i64 c.id)) = yE at *
 replace kR := kR.put pO (Nat.ne_of_lt LTkRkM.out)
 replace HB := pO.below _ _ HB (Nat.le_refl _)
 have kM := kM2
 clear kM2 pO
 refine hKQ.out _ _ (⟨kR.cell 0, kR.cell 2⟩) (fun _ => ?_)
 clear hKQ KQ
 try simp only [Act.put]
 refine tj 13 _ ?_
 try simp only [Act.put, ka, kb, kc]
 refine rr [14] ?_
 refine rc (fun KQ hKQ => ?_) AllReadyH.nil
 have df := fun i => kM.frozen i
 have cM : _ = some _ := kM.cell 2
 go_simp
 have kM2 : Blk 49 _ w.heap.size (msC { m with f := c.id, t := tn } (.slice A n p)) := kM.set_ 2 (.int .i64 tn)
 have pO := put_set yE w.heap.size 2 (.int .i64 tn)
 clear df cM kM
 generalize (yE.setCell ⟨w.heap.size, 2, none⟩ (.int .i64 tn)) = yF at *
 replace kR := kR.put pO (Nat.ne_of_lt LTkRkM.out)
 replace HB := pO.below _ _ HB (Nat.le_refl _)
 have kM := kM2
 clear kM2 pO
 refine hKQ.out _ _ (⟨kR.cell 0, kR.cell 2⟩) (fun _ => ?_)
 clear hKQ KQ
 try simp only [Act.put]
 refine tj 15 _ ?_
 try simp only [Act.put, ka, kb, kc]
 refine rr [16] ?_
 refine rc (fun KQ hKQ => ?_) AllReadyH.nil
 have df := fun i => kM.frozen i
 have cM : _ = some _ := kM.cell 3
 go_simp
 have kM2 : Blk 49 _ w.heap.size (msC (sayF c tn m) (.slice A n p)) := kM.set_ 3 (.int .i64 c.tm)
 have pO := put_set yF w.heap.size 3 (.int .i64 c.tm)
 clear df cM kM
 generalize (yF.setCell ⟨w.heap.size, 3, none⟩ (.int .i64 c.tm)) = yG at *
 replace kR := kR.put pO (Nat.ne_of_lt LTkRkM.out)
 replace HB := pO.below _ _ HB (Nat.le_refl _)
 have kM := kM2
 clear kM2 pO
 refine hKQ.out _ _ (⟨kR.cell 0, kR.cell 2⟩) (fun _ => ?_)
 clear hKQ KQ
 try simp only [Act.put]
 refine wpAnyH_done (by kernel_rfl) ?_ _
 go_upto_region 2 with (first | refine lo_Mj kM ?_)
 refine tail.region (S := fun wq => wq.cell? ⟨g, 45, none⟩ = some (.slice Av nx cv) ∧ Blk 49 wq w.heap.size (msC (sayF c tn m) (.slice A n p))) [10] (by kernel_rfl) ⟨kR.drew.cell 45, kM.drew⟩ (fun hHeld => ?_)
 have hD := (Below.refl yG.heap.size yG).drew
 replace HB := bt HB hD
 replace kR := kR.b hD
 replace kM := kM.b hD
 clear hD
 generalize yG.drew = yH at *
 have sS : yH.cell? ⟨g, 45, none⟩ = some (.slice Av nx cv) ∧ Blk 49 yH w.heap.size (msC (sayF c tn m) (.slice A n p)) := ⟨kR.cell 45, kM⟩
 refine tail.tt 0 (v := ?v_0_2) (?y_0_2) ?_
 case y_0_2 => (intro wq hSw; (try dsimp only at hSw); go_simp; first | done | with_reducible rfl)
 try simp only [Act.put, ka, kb, kc]
 refine tail.tt 1 (v := ?v_1_2) (?y_1_2) ?_
 case y_1_2 => (intro wq hSw; (try dsimp only at hSw); go_simp; first | done | with_reducible rfl)
 try simp only [Act.put, ka, kb, kc]
 refine tail.tt 2 (v := ?v_2_2) (?y_2_2) ?_
 case y_2_2 => (intro wq hSw; (try dsimp only at hSw); go_simp; first | done | with_reducible rfl)
 try simp only [Act.put, ka, kb, kc]
 refine tail.tt 3 (v := ?v_3_2) (?y_3_2) ?_
 case y_3_2 => (intro wq hSw; (try dsimp only at hSw); go_simp; first | done | with_reducible rfl)
 try simp only [Act.put, ka, kb, kc]
 refine tail.tt 4 (v := ?v_4_2) (?y_4_2) ?_
 case y_4_2 => (intro wq hSw; (try dsimp only at hSw); go_simp; first | done | with_reducible rfl)
 try simp only [Act.put, ka, kb, kc]
 refine tail.tt 5 (fun wq hSw => rld_M rfl rfl (And.right hSw)) ?_
 try simp only [Act.put, ka, kb, kc]
 refine tail.tn 6 (fun KQ hKQ => ?_)
 refine step_bsR rfl _ 38 rfl _ rfl _ (run_bsM2 (sayF c tn m) (.slice A n p) yH) ?_
 rintro v z1 ⟨rfl, kB, hX⟩
 replace HB := bt HB hX
 replace kR := kR.b hX
 replace kM := kM.b hX
 clear hX
 clear sS
 have sS : z1.cell? ⟨g, 45, none⟩ = some (.slice Av nx cv) ∧ Blk 49 z1 w.heap.size (msC (sayF c tn m) (.slice A n p)) := ⟨kR.cell 45, kM⟩
 refine hKQ.out _ _ ?s_6 ?_
 case s_6 => exact .inr sS
 clear hKQ KQ
 try simp only [Act.put, ka, kb, kc]
 refine tail.tn 7 (fun KQ hKQ => ?_)
 have hM1 := HM.out.same (w' := z1) (fun k _ hk => HB.block k hk)
 refine step_appR rfl _ _ 38 rfl _ _ rfl rfl _ (run_app_M z1 (g + 1) _ Av nx cv xs0 hnx.out hM1 yH.heap.size (sayF c tn m) A n p kB (by omega) (Nat.succ_le_of_lt (Nat.lt_of_lt_of_le HI.out.lt HB.size))) ?_
 rintro v1 z2 ⟨⟨A1, c1, rfl⟩, hM2, hG, hF, hB1⟩
 clear hM1 kB
 have sS2 : z2.cell? ⟨g, 45, none⟩ = some (.slice Av nx cv) ∧ Blk 49 z2 w.heap.size (msC (sayF c tn m) (.slice A n p)) := ⟨(kR.below hB1 (Nat.lt_succ_self g)).cell 45, (hG.block _ kM.lt (fun e => by have := (HM.out.lt _ e.symm).2; omega)).trans kM⟩
 clear sS
 have sS := sS2
 clear sS2
 replace kR := kR.below hB1 (Nat.lt_succ_self g)
 replace HB := Lh HB
 refine hKQ.out _ _ ?s_7 ?_
 case s_7 => exact .inr sS
 clear hKQ KQ
 try simp only [Act.put, ka, kb, kc]
 refine tail.tt 8 (v := ?v_8_2) (?y_8_2) ?_
 case y_8_2 => (intro wq hSw; (try dsimp only at hSw); go_simp; first | done | with_reducible rfl)
 try simp only [Act.put, ka, kb, kc]
 refine tail.tt 9 (v := ?v_9_2) (?y_9_2) ?_
 case y_9_2 => (intro wq hSw; (try dsimp only at hSw); go_simp; first | done | with_reducible rfl)
 try simp only [Act.put, ka, kb, kc]
 refine tail.tn 10 (fun KQ hKQ => ?_)
 have df := fun i => kR.frozen i
 have cR : _ = some _ := kR.cell 45
 go_simp
 have kR2 : Blk 99 _ g (rnC c (.slice A0 n0 p0) (.slice A1 (nx + 1) c1)) := kR.set_ 45 (.slice A1 (nx + 1) c1)
 have pO := put_set z2 g 45 (.slice A1 (nx + 1) c1)
 clear df cR kR sS
 generalize (z2.setCell ⟨g, 45, none⟩ (.slice A1 (nx + 1) c1)) = z3 at *
 refine hKQ.out _ _ ?s_10 ?_
 case s_10 => exact .inl (by decide)
 clear hKQ KQ
 try simp only [Act.put]
 refine tail.done (by kernel_rfl) ?_ _
 go_end0
 have HB := HB.out
 have hCh : Ch g o z1 z2 := Ch.of_grown (g := g) (by have h := hG; rwa [ho.out] at h)
 have hNx : Nx o ⟨(Value.slice A1 (nx + 1) c1).ownBlock, o.lo⟩ z1 := ⟨fun k hk => by have h := hF k hk; rwa [ho.out] at h, rfl⟩
 refine ⟨rfl, _, ⟨A0, n0, p0, _, kR2, ((HL.out.below HB).ch hCh hNx).put pO, hp0, hlo, xs0 ++ [(sayF c tn m, .slice A n p)], hM2.same (fun k hk _ => pO.other k (by have := (hM2.lt k hk).1; omega)), rfl, by rw [List.map_append, hms.out]; rfl, ?_⟩, ?_, ?_⟩
 ·
  intro x hx
  rcases List.mem_append.1 hx with hx | hx
  ·
   obtain ⟨A5, n5, p5, e5, h5, h6⟩ := HS.out x hx
   exact ⟨A5, n5, p5, e5, h5, ((h6.below HB).ch hCh hNx).put pO⟩
  ·
   obtain rfl := List.mem_singleton.1 hx
   exact ⟨A, n, p, rfl, hp, ((Hm.out.below HB).ch hCh hNx).put pO⟩
 · exact ((Ch.of_below g o HB).trans (Nx.refl o w) hCh).trans ((Nx.refl o w).trans HB.size hNx) (Ch.of_put _ pO pO.low)
 · exact (Nx.refl o w).trans HB.size hNx
end Go.Proofs.YtegnfkbmlalkeaaGreat.ref13
namespace Go.Proofs.YtegnfkbmlalkeaaGreat.ref13
open Go Go.RowKit kit nums cf lg cr se
theorem conf_any (g : Nat) (c : CoL) (ms : List MsL) (o : Rw) (w : World) (hI : RunI w g c ms o) (hf : Fit c.lg) : Calls Tryz.prog 65 #[.pointer (some ⟨g, 0, none⟩)] w fun e w' => e = .returned (jV (conC c)) ∧ Below w.heap.size w w' := by
 have HF := Lh hf
 obtain ⟨A0, n0, p0, v0, kR, hR⟩ := hI
 have R0 := hR.rd
 have hp0 := hR.cap
 clear hR hf
 go_enter Tryz.func65, Tryz.ntmps65
 go_wp2_with (first | refine al_J rfl rfl ?_ | (first | refine lo_rLj kR ?_))
 intro y1 kO e1 s1
 clear s1
 replace kO : Blk _ _ _ (jC zeroJ) := kO
 have HB := e1
 replace kR := kR.b e1
 replace R0 := R0.on e1 e1.size
 clear e1
 go_wp2_with (first | refine lo_rLj kR ?_ | refine lo_Jj kO ?_)
 have CC := ref12.rconf_any c.lg A0 n0 p0 y1 y1.heap.size R0 (Nat.le_refl _) hp0 HF.out
 refine (CC).mono ?_
 rintro e y2 ⟨rfl, hY⟩
 replace HB := bt HB hY
 replace kR := kR.b hY
 replace kO := kO.b hY
 replace R0 := R0.on hY hY.size
 clear hY
 clear CC
 go_wp2_with (first | (first | refine lo_rLj kR ?_ | refine lo_Jj kO ?_) | refine st_Jv rfl _ _ rfl (conC c) rfl rfl _ kO rfl ?_)
 intro yz kZ pz
 have HB2 := pz.below _ _ HB (Nat.le_refl _)
 clear kR kO HB pz R0
 go_wp2_with fail
 (try simp only [Exit.inBlock, Exit.then])
 refine bodyPost_ret (res1 Tryz.results65 rfl (aggJ _) (sizeJ _) (ldJv kZ)) rfl ?_
 exact ⟨rfl, HB2⟩
theorem yields_any (g : Nat) (c : CoL) (ms : List MsL) (o : Rw) (w : World) (hI : RunI w g c ms o) : Calls Tryz.prog 66 #[.pointer (some ⟨g, 0, none⟩)] w fun e w' => e = .returned (.tuple #[]) ∧ ∃ o', RunI w' g (yieC c) ms o' ∧ Ch g o w w' ∧ Nx o o' w := by
 obtain ⟨A0, n0, p0, v0, kR, hR⟩ := hI
 have HC := Ch.refl g o w
 have HN := Nx.refl o w
 go_enter Tryz.func66, Tryz.ntmps66
 have df := fun i => kR.frozen i
 have cR1 : _ = some _ := kR.cell 1
 have cR4 : _ = some _ := kR.cell 4
 have cR5 : _ = some _ := kR.cell 5
 go_wp2_with fail
 clear df cR1 cR4 cR5
 have kR2 : Blk 99 _ g (rnC { c with ro := 0 } (.slice A0 n0 p0) v0) := kR.set_ 1 (.int .i64 0)
 have pO := put_set w g (1) (.int .i64 0)
 clear kR
 generalize (w.setCell ⟨g, 1, none⟩ (.int .i64 0)) = y1 at *
 replace hR := hR.put pO
 replace HC := HC.trans HN (Ch.of_put _ pO pO.low)
 have kR := kR2
 clear kR2 pO
 have kR2 : Blk 99 _ g (rnC { c with ro := 0, le := 0 } (.slice A0 n0 p0) v0) := kR.set_ 4 (.int .i64 0)
 have pO := put_set y1 g (4) (.int .i64 0)
 clear kR
 generalize (y1.setCell ⟨g, 4, none⟩ (.int .i64 0)) = y2 at *
 replace hR := hR.put pO
 replace HC := HC.trans HN (Ch.of_put _ pO pO.low)
 have kR := kR2
 clear kR2 pO
 have kR2 : Blk 99 _ g (rnC (yieC c) (.slice A0 n0 p0) v0) := kR.set_ 5 (.int .i64 0)
 have pO := put_set y2 g (5) (.int .i64 0)
 clear kR
 generalize (y2.setCell ⟨g, 5, none⟩ (.int .i64 0)) = y3 at *
 replace hR := hR.put pO
 replace HC := HC.trans HN (Ch.of_put _ pO pO.low)
 have kR := kR2
 clear kR2 pO
 go_end0
 exact ⟨rfl, _, ⟨_, _, _, _, kR, hR⟩, HC, HN⟩
end Go.Proofs.YtegnfkbmlalkeaaGreat.ref13
namespace Go.Proofs.YtegnfkbmlalkeaaGreat.ref13
open Go Go.RowKit kit nums cf lg cr se
theorem has_lt (c : CoL) (i : Int) : ∀ k, hasTo c i k < 65536
 | 0 => by show 0 < _; omega
 | k + 1 => by
  unfold hasTo
  split
  · exact withF_lt _ (has_lt c i k)
  · exact has_lt c i k
theorem has_any (g : Nat) (c : CoL) (ms : List MsL) (o : Rw) (i : Int) (w : World) (hI : RunI w g c ms o) : Calls Tryz.prog 147 #[.pointer (some ⟨g, 0, none⟩), .int .i64 i] w fun e w' => e = .returned (.int .u16 ((hasC c i : Nat) : Int)) ∧ Below w.heap.size w w' := by
 obtain ⟨A0, n0, p0, v0, kR, hR⟩ := hI
 clear hR
 go_enter Tryz.func147, Tryz.ntmps147
 have HB := Below.refl w.heap.size w
 have BkR := Lh kR
 clear kR
 have BH := Lh HB
 clear HB
 go_wp2_with fail
 go_loopw [5, 6] (fun sv nv wr => ∃ k : Nat, k ≤ 9 ∧ sv = .int .u16 (hasTo c i k : Int) ∧ nv = .int .i64 ((k + 1 : Nat) : Int) ∧ Hid (Below w.heap.size w wr)) (fun _ nv _ => 10 - (intOf nv).toNat)
 case atStart => exact ⟨0, by omega, rfl, rfl, Lh (Below.refl _ _)⟩
 case round =>
  obtain ⟨k, hk, rfl, rfl, HY⟩ := hrel
  by_cases hk9 : k < 9
  ·
   have kR := BkR.out.below HY.out BkR.out.lt
   have HB := HY.out
   have ck : ((k + 1 : Nat) : Int) ≤ 9 := by omega
   have c10 : ((k + 1 : Nat) : Int) < 10 := by omega
   have c00 : (0 : Int) ≤ ((k + 1 : Nat) : Int) := by omega
   have wk : IntKind.i64.wrap (((k + 1 : Nat) : Int) + 1) = ((k + 1 + 1 : Nat) : Int) := by rw [wrap_sm (by omega) (by omega)]; omega
   have cR := rn_mt kR (show k + 1 < 10 by omega)
   have hs := has_lt c i k
   have HS : Hid (hasTo c i (k + 1) = if i ≤ c.mt (k + 1) then withF (hasTo c i k) ((k + 1 : Nat) : Int) else hasTo c i k) := rfl
   obtain ⟨t2, ht2⟩ : ∃ z, hasTo c i (k + 1) = z := ⟨_, rfl⟩
   rw [ht2] at HS
   have HT : Hid (hasTo c i (k + 1) = t2) := ht2
   clear ht2
   generalize hasTo c i k = t1 at *
   obtain ⟨j, hj⟩ : ∃ j : Nat, j = k + 1 := ⟨_, rfl⟩
   rw [← hj] at ck c10 c00 wk cR HS HT ⊢
   replace hj := Lh hj
   obtain ⟨mv, hmv⟩ : ∃ z, c.mt j = z := ⟨_, rfl⟩
   rw [hmv] at cR HS
   clear hmv
   by_cases hle : i ≤ mv
   ·
    have ht : Hid (t2 = withF t1 (j : Int)) := by show _ = _; rw [HS.out, if_pos hle]
    have hge : mv ≥ i := hle
    clear HS
    go_wp2_with (first | refine lo_rLj kR ?_)
    have CC := ref9.with_any t1 (j : Int) wr hs (by omega) (by omega)
    refine CC.mono ?_
    rintro e2 y2 ⟨rfl, rfl⟩
    clear CC
    go_wp2_with fail
    go_roundw
    case rel => exact ⟨j, by have := hj.out; omega, by rw [HT.out, ht.out], by rfl, Lh HB⟩
    case measure => have := hj.out; simp only [intOf]; omega
   ·
    have ht : Hid (t2 = t1) := by show _ = _; rw [HS.out, if_neg hle]
    have hge : ¬ mv ≥ i := hle
    clear HS
    go_wp2_with (first | refine lo_rLj kR ?_)
    go_roundw
    case rel => exact ⟨j, by have := hj.out; omega, by rw [HT.out, ht.out], by rfl, Lh HB⟩
    case measure => have := hj.out; simp only [intOf]; omega
  ·
   have kR := BkR.out.below HY.out BkR.out.lt
   have HB := HY.out
   obtain rfl : k = 9 := by omega
   have ck : ¬ (((9 + 1 : Nat) : Int) ≤ 9) := by omega
   go_wp2_with fail
   go_ret
   exact ⟨rfl, HB⟩
end Go.Proofs.YtegnfkbmlalkeaaGreat.ref13
namespace Go.Proofs.YtegnfkbmlalkeaaGreat.ref13
open Go Go.RowKit kit nums cf lg cr se
theorem push_any (g : Nat) (c : CoL) (ms : List MsL) (o : Rw) (x : EnL) (w : World) (hI : RunI w g c ms o) (hf : Fit c.lg) (hn : c.lg.es.length ≤ 900000) (hid : 0 ≤ c.id ∧ c.id ≤ 9) : Calls Tryz.prog 93 #[.pointer (some ⟨g, 0, none⟩), enV x] w fun e w' => e = .returned (.tuple #[]) ∧ ∃ o', RunI w' g (pushC c x) ms o' ∧ Ch g o w w' ∧ Nx o o' w := by
 have HI := Lh hI
 obtain ⟨A0, n0, p0, v0, kR, hR0⟩ := hI
 have HR := Lh hR0
 have hp0 := hR0.cap
 have R0 := hR0.rd
 have HF := Lh hf
 clear hR0 hf
 obtain ⟨i, hi⟩ : ∃ i : Nat, c.id = (i : Int) := ⟨c.id.toNat, by omega⟩
 have hi9 : i ≤ 9 := by omega
 have hi10 : (i : Int) < 10 := by omega
 have hi0 : (0 : Int) ≤ (i : Int) := by omega
 replace hi := Lh hi
 replace hn := Lh hn
 clear hid
 have HPC : Hid ({ c with lg := pushF c.lg { x with t := c.tm }, mt := upd c.mt i (lastF (pushF c.lg { x with t := c.tm })) } = pushC c x) := by
  show _ = _
  unfold pushC
  rw [hi.out, Int.toNat_natCast, show lastF (pushF c.lg { x with t := c.tm }) = lastF c.lg + 1 by unfold lastF pushF; simp [List.length_append]; omega]
 have HF2 : Hid (Fit (pushF c.lg { x with t := c.tm })) := ⟨HF.out.1, HF.out.2.1, by show (c.lg.es ++ [_]).length ≤ _; rw [List.length_append]; have := hn.out; simp; omega⟩
 go_enter Tryz.func93, Tryz.ntmps93
 go_wp2_with (refine box_E rfl _ rfl x rfl ?_)
 intro y1 kE e1 s1
 clear s1
 have LTkRkE := Lh kR.lt
 have HB := e1
 replace kR := kR.b e1
 replace R0 := R0.on e1 e1.size
 clear e1
 have df := fun i => kE.frozen i
 have cE : _ = some _ := kE.cell 0
 have cR2 : _ = some (Value.int .i64 c.tm) := kR.cell 2
 go_upto_region 2 with (fail)
 have kE2 : Blk 52 _ w.heap.size (enC { x with t := c.tm }) := kE.set_ 0 (.int .i64 c.tm)
 have pO := put_set y1 w.heap.size 0 (.int .i64 c.tm)
 clear df cE cR2 kE
 generalize (y1.setCell ⟨w.heap.size, 0, none⟩ (.int .i64 c.tm)) = yA at *
 replace kR := kR.put pO (Nat.ne_of_lt LTkRkE.out)
 replace HB := pO.below _ _ HB (Nat.le_refl _)
 have kE := kE2
 clear kE2 pO
 replace R0 := (HR.out.below HB).rd
 refine tail.region (S := fun wq => Blk 99 wq g (rnC c (.slice A0 n0 p0) v0) ∧ Blk 52 wq w.heap.size (enC { x with t := c.tm })) [11] (by kernel_rfl) ⟨kR.drew, kE.drew⟩ (fun hHeld => ?_)
 have hD := (Below.refl yA.heap.size yA).drew
 replace HB := bt HB hD
 replace kR := kR.b hD
 replace kE := kE.b hD
 replace R0 := R0.on hD hD.size
 clear hD
 generalize yA.drew = yB at *
 have sS : Blk 99 yB g (rnC c (.slice A0 n0 p0) v0) ∧ Blk 52 yB w.heap.size (enC { x with t := c.tm }) := ⟨kR, kE⟩
 refine tail.tt 0 (v := ?v_0_1) (?y_0_1) ?_
 case y_0_1 => (intro wq hSw; (try dsimp only at hSw); go_simp; first | done | with_reducible rfl)
 try simp only [Act.put, ka, kb, kc]
 refine tail.tt 1 (v := ?v_1_1) (?y_1_1) ?_
 case y_1_1 => (intro wq hSw; (try dsimp only at hSw); go_simp; first | done | with_reducible rfl)
 try simp only [Act.put, ka, kb, kc]
 refine tail.tt 2 (v := ?v_2_1) (?y_2_1) ?_
 case y_2_1 => (intro wq hSw; (try dsimp only at hSw); go_simp; first | done | with_reducible rfl)
 try simp only [Act.put, ka, kb, kc]
 refine tail.tt 3 (v := ?v_3_1) (?y_3_1) ?_
 case y_3_1 => (intro wq hSw; (try dsimp only at hSw); go_simp; first | done | with_reducible rfl)
 try simp only [Act.put, ka, kb, kc]
 refine tail.tt 4 (v := ?v_4_1) (?y_4_1) ?_
 case y_4_1 => (intro wq hSw; (try dsimp only at hSw); go_simp; first | done | with_reducible rfl)
 try simp only [Act.put, ka, kb, kc]
 refine tail.tt 5 (fun wq hSw => rld_rL rfl rfl (And.left hSw)) ?_
 try simp only [Act.put, ka, kb, kc]
 refine tail.tt 6 (fun wq hSw => rld_E rfl rfl (And.right hSw)) ?_
 try simp only [Act.put, ka, kb, kc]
 refine tail.tn 7 (fun KQ hKQ => ?_)
 go_simp
 have CC := ref12.rpush_any c.lg A0 n0 p0 { x with t := c.tm } yB yB.heap.size R0 (Nat.le_refl _) hp0 HF.out
 refine CC.mono ?_
 rintro e2 yC ⟨A1, n1, p1, rfl, hn1, hO, hY⟩
 clear CC
 have hgb := Lh (Nat.lt_of_lt_of_le HI.out.lt HB.size)
 have hob := Lh (fun k (hk : o.row = some k) => Nat.lt_of_lt_of_le (HI.out.row k hk).2 HB.size)
 replace hn1 := Lh hn1
 replace HB := bt HB hY
 replace kR := kR.b hY
 replace kE := kE.b hY
 replace R0 := R0.on hY hY.size
 clear hY
 clear sS
 have sS : Blk 99 yC g (rnC c (.slice A0 n0 p0) v0) ∧ Blk 52 yC w.heap.size (enC { x with t := c.tm }) := ⟨kR, kE⟩
 go_wp2_with fail
 refine hKQ.out _ _ ?s_7 ?_
 case s_7 => exact .inr sS
 clear hKQ KQ
 try simp only [Act.put, ka, kb, kc]
 refine tail.tt 8 (v := ?v_8_1) (?y_8_1) ?_
 case y_8_1 => (intro wq hSw; (try dsimp only at hSw); go_simp; first | done | with_reducible rfl)
 try simp only [Act.put, ka, kb, kc]
 refine tail.tt 9 (v := ?v_9_1) (?y_9_1) ?_
 case y_9_1 => (intro wq hSw; (try dsimp only at hSw); go_simp; first | done | with_reducible rfl)
 try simp only [Act.put, ka, kb, kc]
 refine tail.tt 10 (v := ?v_10_1) (?y_10_1) ?_
 case y_10_1 => (intro wq hSw; (try dsimp only at hSw); go_simp; first | done | with_reducible rfl)
 try simp only [Act.put, ka, kb, kc]
 refine tail.tn 11 (fun KQ hKQ => ?_)
 refine step_stAt rfl 30 _ _ rfl (cells := (lgC (pushF c.lg { x with t := c.tm }) (.slice A1 n1 p1)).toArray) (rnC { c with lg := pushF c.lg { x with t := c.tm } } (.slice A1 n1 p1) v0) rfl rfl kR sizeLv (by show 8 + 14 ≤ 46; omega) (lg_one _) rfl ?_
 intro yD kR2 pO
 have hX : RdX yC g o A1 n1 (pushF c.lg { x with t := c.tm }).es := RdX.of_own hO hgb.out hob.out HR.out.lo
 have hR := ((HR.out.below HB).log hX hO.cap.2.1).put pO
 have HC := (Ch.of_below g o HB).trans (Nx.refl o w) (Ch.of_put o pO pO.low)
 have HN := Nx.refl o w
 clear kR kE HB R0 pO hX hO sS hgb hob
 have kR := kR2
 clear kR2
 refine hKQ.out _ _ ?s_11 ?_
 case s_11 => exact .inl (by decide)
 clear hKQ KQ
 try simp only [Act.put]
 refine tail.done (by kernel_rfl) ?_ _
 go_upto_region 3 with (first | refine lo_rLj kR ?_ | refine lo_rCj kR ?_)
 have cid : yD.cell? ⟨g, 0, none⟩ = some (.int .i64 (i : Int)) := by rw [← hi.out]; exact kR.cell 0
 refine tail.region (S := fun wq => Blk 99 wq g (rnC { c with lg := pushF c.lg { x with t := c.tm } } (.slice A1 n1 p1) v0) ∧ wq.cell? ⟨g, 0, none⟩ = some (.int .i64 (i : Int))) [16] (by kernel_rfl) ⟨kR.drew, by rw [← hi.out]; exact kR.drew.cell 0⟩ (fun hHeld => ?_)
 clear cid
 have hD := (Below.refl yD.heap.size yD).drew
 replace HC := HC.trans HN (Ch.of_below g _ hD)
 replace kR := kR.b hD
 replace hR := hR.below hD
 clear hD
 generalize yD.drew = yE at *
 have sS : Blk 99 yE g (rnC { c with lg := pushF c.lg { x with t := c.tm } } (.slice A1 n1 p1) v0) ∧ yE.cell? ⟨g, 0, none⟩ = some (.int .i64 (i : Int)) := ⟨kR, by rw [← hi.out]; exact kR.cell 0⟩
 refine tail.tt 0 (v := ?v_0_2) (?y_0_2) ?_
 case y_0_2 => (intro wq hSw; (try dsimp only at hSw); go_simp; first | done | with_reducible rfl)
 try simp only [Act.put, ka, kb, kc]
 refine tail.tt 1 (v := ?v_1_2) (?y_1_2) ?_
 case y_1_2 => (intro wq hSw; (try dsimp only at hSw); go_simp; first | done | with_reducible rfl)
 try simp only [Act.put, ka, kb, kc]
 refine tail.tt 2 (v := ?v_2_2) (?y_2_2) ?_
 case y_2_2 => (intro wq hSw; (try dsimp only at hSw); go_simp; first | done | with_reducible rfl)
 try simp only [Act.put, ka, kb, kc]
 refine tail.tt 3 (v := ?v_3_2) (?y_3_2) ?_
 case y_3_2 => (intro wq hSw; (try dsimp only at hSw); go_simp; first | done | with_reducible rfl)
 try simp only [Act.put, ka, kb, kc]
 refine tail.tt 4 (v := ?v_4_2) (?y_4_2) ?_
 case y_4_2 => (intro wq hSw; (try dsimp only at hSw); go_simp; first | done | with_reducible rfl)
 try simp only [Act.put, ka, kb, kc]
 refine tail.tt 5 (v := ?v_5_2) (?y_5_2) ?_
 case y_5_2 => (intro wq hSw; (try dsimp only at hSw); go_simp; first | done | with_reducible rfl)
 try simp only [Act.put, ka, kb, kc]
 refine tail.tt 6 (v := ?v_6_2) (?y_6_2) ?_
 case y_6_2 => (intro wq hSw; (try dsimp only at hSw); go_simp; first | done | with_reducible rfl)
 try simp only [Act.put, ka, kb, kc]
 refine tail.tt 7 (v := ?v_7_2) (?y_7_2) ?_
 case y_7_2 => (intro wq hSw; (try dsimp only at hSw); go_simp; first | done | with_reducible rfl)
 try simp only [Act.put, ka, kb, kc]
 refine tail.tt 8 (v := ?v_8_2) (?y_8_2) ?_
 case y_8_2 => (intro wq hSw; (try dsimp only at hSw); go_simp; first | done | with_reducible rfl)
 try simp only [Act.put, ka, kb, kc]
 refine tail.tt 9 (v := ?v_9_2) (?y_9_2) ?_
 case y_9_2 => (intro wq hSw; (try dsimp only at hSw); go_simp; first | done | with_reducible rfl)
 try simp only [Act.put, ka, kb, kc]
 refine tail.tt 10 (fun wq hSw => rld_rL rfl rfl (And.left hSw)) ?_
 try simp only [Act.put, ka, kb, kc]
 refine tail.tt 12 (v := ?v_12_2) (?y_12_2) ?_
 case y_12_2 => (intro wq hSw; (try dsimp only at hSw); go_simp; first | done | with_reducible rfl)
 try simp only [Act.put, ka, kb, kc]
 refine tail.tt 13 (v := ?v_13_2) (?y_13_2) ?_
 case y_13_2 => (intro wq hSw; (try dsimp only at hSw); go_simp; first | done | with_reducible rfl)
 try simp only [Act.put, ka, kb, kc]
 refine tail.tt 14 (v := ?v_14_2) (?y_14_2) ?_
 case y_14_2 => (intro wq hSw; (try dsimp only at hSw); go_simp; first | done | with_reducible rfl)
 try simp only [Act.put, ka, kb, kc]
 refine tail.tn 11 (fun KQ hKQ => ?_)
 go_simp
 have CC := ref12.rlast_any (pushF c.lg { x with t := c.tm }) A1 n1 p1 yE hn1.out.symm HF2.out
 refine CC.mono ?_
 rintro e2 yF ⟨rfl, hY⟩
 clear CC
 replace HC := HC.trans HN (Ch.of_below g _ hY)
 replace kR := kR.b hY
 replace hR := hR.below hY
 clear hY
 clear sS
 have sS : Blk 99 yF g (rnC { c with lg := pushF c.lg { x with t := c.tm } } (.slice A1 n1 p1) v0) ∧ yF.cell? ⟨g, 0, none⟩ = some (.int .i64 (i : Int)) := ⟨kR, by rw [← hi.out]; exact kR.cell 0⟩
 go_wp2_with fail
 refine hKQ.out _ _ ?s_11 ?_
 case s_11 => exact .inr sS
 clear hKQ KQ
 try simp only [Act.put, ka, kb, kc]
 refine tail.tt 15 (v := ?v_15_2) (?y_15_2) ?_
 case y_15_2 => (intro wq hSw; (try dsimp only at hSw); go_simp; first | done | with_reducible rfl)
 try simp only [Act.put, ka, kb, kc]
 refine tail.tn 16 (fun KQ hKQ => ?_)
 have df := fun i => kR.frozen i
 have cR := rn_mt kR (show i < 10 by omega)
 go_simp
 clear df cR sS
 have kR2 : Blk 99 _ g (rnC (pushC c x) (.slice A1 n1 p1) v0) := (by rw [← HPC.out]; exact set_mt kR (show i < 10 by omega) _)
 have pO := put_set yF g (35 + i) (.int .i64 (lastF (pushF c.lg { x with t := c.tm })))
 clear kR
 generalize (yF.setCell ⟨g, 35 + i, none⟩ (.int .i64 (lastF (pushF c.lg { x with t := c.tm })))) = yG at *
 replace hR := hR.put pO
 replace HC := HC.trans HN (Ch.of_put _ pO pO.low)
 have kR := kR2
 clear kR2 pO
 refine hKQ.out _ _ ?s_16 ?_
 case s_16 => exact .inl (by decide)
 clear hKQ KQ
 try simp only [Act.put]
 refine tail.done (by kernel_rfl) ?_ _
 go_end0
 exact ⟨rfl, _, ⟨_, _, _, _, kR, hR⟩, HC, HN⟩
end Go.Proofs.YtegnfkbmlalkeaaGreat.ref13
namespace Go.Proofs.YtegnfkbmlalkeaaGreat.ref13
open Go Go.RowKit kit nums cf lg cr se
theorem send_any (g : Nat) (c : CoL) (ms : List MsL) (o : Rw) (n : Int) (w : World) (hI : RunI w g c ms o) (hf : Fit c.lg) (hn : 0 ≤ n ∧ n ≤ 9) (hx : 0 ≤ nxF c n ∧ nxF c n ≤ 2199023255552) (hl : ms.length ≤ 1000) : Calls Tryz.prog 124 #[.pointer (some ⟨g, 0, none⟩), .int .i64 n] w fun e w' => e = .returned (.tuple #[]) ∧ ∃ o', RunI w' g c (ms ++ [sendF c n]) o' ∧ Ch g o w w' ∧ Nx o o' w := by
 obtain ⟨j, rfl⟩ : ∃ j : Nat, n = (j : Int) := ⟨n.toNat, by omega⟩
 have hj : j < 10 := by omega
 have cj : (j : Int) < 10 := by omega
 have c0j : (0 : Int) ≤ (j : Int) := by omega
 have HF := Lh hf
 have hnx : nxF c (j : Int) = c.nx j := rfl
 have HS : Hid (sendF c (j : Int) = if c.nx j ≤ c.lg.b then sayF c j { zM with k := 5, i := c.lg.b, lt := c.lg.t, d := c.sn, j := c.lg.j, c := c.cm, s := c.sf } else sayF c j { zM with k := 3, i := c.nx j - 1, lt := (termF c.lg (c.nx j - 1)).1, es := sliceF c.lg (c.nx j) 8, c := c.cm, s := c.sf }) := rfl
 rw [hnx] at hx
 obtain ⟨v, hv⟩ : ∃ z, c.nx j = z := ⟨_, rfl⟩
 rw [hv] at HS hx
 replace hv := Lh hv
 clear hn hf hnx
 obtain ⟨A0, n0, p0, v0, kR, hR⟩ := hI
 have HC := Ch.refl g o w
 have HN := Nx.refl o w
 go_enter Tryz.func124, Tryz.ntmps124
 have akC := hR.fresh kR.lt (Nat.le_refl _)
 go_wp2_with (first | refine al_C rfl rfl ?_ | (first | refine lo_rLj kR ?_ | refine lo_rCj kR ?_))
 intro x1 zkC e1 s1
 clear s1
 go_wp2_with (refine st_C rfl _ _ rfl c A0 n0 p0 rfl rfl _ zkC rfl ?_)
 intro y1 kC q1
 have t1 := q1.below _ _ e1 (Nat.le_refl _)
 clear q1 e1 zkC
 replace HC := HC.trans HN (Ch.of_below g _ t1)
 replace kR := kR.b t1
 replace hR := hR.below t1
 clear t1
 obtain ⟨gkC, hgkC⟩ : ∃ q, w.heap.size = q := ⟨_, rfl⟩
 rw [hgkC] at akC kC ⊢
 replace hgkC := Lh hgkC
 go_upto_region 1 with (first | refine lo_rLj kR ?_ | refine lo_rCj kR ?_ | refine lo_Cj kC ?_ | refine lo_cLj kC ?_ | refine lo_cJj kC ?_)
 refine wp_region_held_drew (S := fun wq => wq.cell? ⟨gkC, 25 + j, none⟩ = some (.int .i64 v) ∧ wq.cell? ⟨gkC, 8, none⟩ = some (.int .i64 c.lg.b)) (by kernel_rfl) ?s_snd1 (fun hHeld => ?_)
 case s_snd1 => exact ⟨by rw [← hv.out]; exact cr_nx kC hj, kC.cell 8⟩
 have hD := (Below.refl y1.heap.size y1).drew
 replace HC := HC.trans HN (Ch.of_below g _ hD)
 replace kR := kR.b hD
 replace kC := kC.b hD
 replace hR := hR.below hD
 clear hD
 generalize y1.drew = y2 at *
 iterate 8 (refine tx 0 _ ?_; try simp only [Act.put, ka, kb, kc])
 refine wpAnyH_done (by kernel_rfl) ?_ _
 by_cases hle : v ≤ c.lg.b
 ·
  have hM : Hid (sendF c (j : Int) = sayF c j { zM with k := 5, i := c.lg.b, lt := c.lg.t, d := c.sn, j := c.lg.j, c := c.cm, s := c.sf }) := by show _ = _; rw [HS.out, if_pos hle]
  clear HS
  have cc6 : _ = some _ := kC.cell 6
  have cc7 : _ = some _ := kC.cell 7
  have cc8 : _ = some _ := kC.cell 8
  have cc9 : _ = some _ := kC.cell 9
  have cc22 : _ = some _ := kC.cell 22
  go_wp2_with (first | refine lo_rLj kR ?_ | refine lo_rCj kR ?_ | refine lo_Cj kC ?_ | refine lo_cLj kC ?_ | refine lo_cJj kC ?_ | refine bd_snap c.lg.b c.lg.t c.sn c.lg.j c.cm c.sf rfl rfl rfl rfl rfl rfl rfl rfl ?_)
  clear cc6 cc7 cc8 cc9 cc22
  refine (say_any g c ms o j _ none 0 0 y2 ⟨_, _, _, _, kR, hR⟩ (RdX.nil _ _ _ _) (Nat.le_refl _) hl).mono ?_
  rintro e y3 ⟨rfl, o3, ⟨A3, n3, p3, v3, kR2, hR2⟩, hc, hn⟩
  have a2 := akC.next hn kC.lt
  replace kC := kC.ch hc akC
  replace akC := a2
  clear a2
  have HN2 := HN.trans HC.size hn
  replace HC := HC.trans HN hc
  replace HN := HN2
  clear HN2 kR hR hc hn
  have kR := kR2
  have hR := hR2
  clear kR2 hR2
  go_wp2_with fail
  refine bodyPost_ret (v := .tuple #[]) (by simp [results, Tryz.results124, go_sem]) rfl ?_
  rw [hM.out]
  exact ⟨rfl, _, ⟨_, _, _, _, kR, hR⟩, HC, HN⟩
 ·
  have hM : Hid (sendF c (j : Int) = sayF c j { zM with k := 3, i := v - 1, lt := (termF c.lg (v - 1)).1, es := sliceF c.lg v 8, c := c.cm, s := c.sf }) := by show _ = _; rw [HS.out, if_neg hle]
  clear HS
  have wv : IntKind.i64.wrap (v - 1) = v - 1 := wrap_sm (by omega) (by omega)
  go_upto_region 3 with (first | refine lo_rLj kR ?_ | refine lo_rCj kR ?_ | refine lo_Cj kC ?_ | refine lo_cLj kC ?_ | refine lo_cJj kC ?_)
  refine wp_region_held_drew (S := fun wq => Blk 33 wq gkC (crC c (.slice A0 n0 p0)) ∧ wq.cell? ⟨gkC, 25 + j, none⟩ = some (.int .i64 v)) (by kernel_rfl) ?s_rsn3 (fun hHeld => ?_)
  case s_rsn3 => exact ⟨kC, by rw [← hv.out]; exact cr_nx kC hj⟩
  have hD := (Below.refl y2.heap.size y2).drew
  replace HC := HC.trans HN (Ch.of_below g _ hD)
  replace kR := kR.b hD
  replace kC := kC.b hD
  replace hR := hR.below hD
  clear hD
  generalize y2.drew = y3 at *
  refine tj 0 _ ?_
  try simp only [Act.put, ka, kb, kc]
  refine tj 1 _ ?_ (hy := fun wq hSw => rld_cL rfl rfl (And.left hSw))
  try simp only [Act.put, ka, kb, kc]
  iterate 5 (refine tx 2 _ ?_; try simp only [Act.put, ka, kb, kc])
  refine rr [7] ?_
  refine rc (fun KQ hKQ => ?_) AllReadyH.nil
  go_simp
  have CC := ref12.rterm_any c.lg A0 n0 p0 (v - 1) y3 y3.heap.size hR.rd (Nat.le_refl _) hR.cap HF.out
  refine CC.mono ?_
  rintro e2 y70 ⟨rfl, hY⟩
  clear CC
  replace HC := HC.trans HN (Ch.of_below g _ hY)
  replace kR := kR.b hY
  replace kC := kC.b hY
  replace hR := hR.below hY
  clear hY
  go_wp2_with fail
  refine hKQ.out _ _ (⟨kC, by rw [← hv.out]; exact cr_nx kC hj⟩) (fun _ => ?_)
  clear hKQ KQ
  try simp only [Act.put, ka, kb, kc]
  iterate 5 (refine tx 8 _ ?_; try simp only [Act.put, ka, kb, kc])
  refine wpAnyH_done (by kernel_rfl) ?_ _
  go_upto_region 4 with (first | refine lo_rLj kR ?_ | refine lo_rCj kR ?_ | refine lo_Cj kC ?_ | refine lo_cLj kC ?_ | refine lo_cJj kC ?_)
  refine wp_region_held_drew (S := fun wq => Blk 33 wq gkC (crC c (.slice A0 n0 p0)) ∧ wq.cell? ⟨gkC, 25 + j, none⟩ = some (.int .i64 v) ∧ wq.cell? ⟨gkC, 6, none⟩ = some (.int .i64 c.cm) ∧ wq.cell? ⟨gkC, 7, none⟩ = some (.int .i64 c.sf)) (by kernel_rfl) ?s_rsn4 (fun hHeld => ?_)
  case s_rsn4 => exact ⟨kC, by rw [← hv.out]; exact cr_nx kC hj, kC.cell 6, kC.cell 7⟩
  have hD := (Below.refl y70.heap.size y70).drew
  replace HC := HC.trans HN (Ch.of_below g _ hD)
  replace kR := kR.b hD
  replace kC := kC.b hD
  replace hR := hR.below hD
  clear hD
  generalize y70.drew = y4 at *
  iterate 9 (refine tx 0 _ ?_; try simp only [Act.put, ka, kb, kc])
  refine tj 9 _ ?_ (hy := fun wq hSw => rld_cL rfl rfl (And.left hSw))
  try simp only [Act.put, ka, kb, kc]
  iterate 4 (refine tx 10 _ ?_; try simp only [Act.put, ka, kb, kc])
  iterate 4 (refine tx 15 _ ?_; try simp only [Act.put, ka, kb, kc])
  refine rr [14] ?_
  refine rc (fun KQ hKQ => ?_) AllReadyH.nil
  go_simp
  have CC := ref12.rslice_any c.lg A0 n0 p0 v 8 y4 y4.heap.size hR.rd (Nat.le_refl _) hR.cap HF.out (by unfold In64; omega) (by unfold In64; omega)
  refine CC.mono ?_
  rintro e2 y71 ⟨A5, n5, p5, rfl, hn5, hO5, hY⟩
  clear CC
  have hg5 := Lh kR.lt
  have ho5 := Lh (fun k hk => (hR.row k hk).2)
  replace hn5 := Lh hn5
  replace HC := HC.trans HN (Ch.of_below g _ hY)
  replace kR := kR.b hY
  replace kC := kC.b hY
  replace hR := hR.below hY
  clear hY
  have hX5 := RdX.of_own hO5 hg5.out ho5.out hR.lo
  have hc5 := Lh hO5.cap.2.1
  clear hO5 hg5 ho5
  go_wp2_with fail
  refine hKQ.out _ _ (⟨kC, by rw [← hv.out]; exact cr_nx kC hj, kC.cell 6, kC.cell 7⟩) (fun _ => ?_)
  clear hKQ KQ
  try simp only [Act.put, ka, kb, kc]
  refine tj 19 (msV { zM with k := 3, i := v - 1, lt := (termF c.lg (v - 1)).1, es := sliceF c.lg v 8, c := c.cm, s := c.sf } (.slice A5 n5 p5)) ?_ (hy := fun wq hSw => rb_app (v - 1) (termF c.lg (v - 1)).1 A5 n5 p5 (sliceF c.lg v 8) c.cm c.sf rfl rfl rfl rfl rfl rfl)
  try simp only [Act.put, ka, kb, kc]
  refine rr [20] ?_
  refine rc (fun KQ hKQ => ?_) AllReadyH.nil
  go_simp
  refine (say_any g c ms o j _ A5 n5 p5 y71 ⟨_, _, _, _, kR, hR⟩ hX5 hc5.out hl).mono ?_
  rintro e y5 ⟨rfl, o5, ⟨A5, n5, p5, v5, kR2, hR2⟩, hc, hn⟩
  have a2 := akC.next hn kC.lt
  replace kC := kC.ch hc akC
  replace akC := a2
  clear a2
  replace hX5 := hX5.ch hc hn
  have HN2 := HN.trans HC.size hn
  replace HC := HC.trans HN hc
  replace HN := HN2
  clear HN2 kR hR hc hn
  have kR := kR2
  have hR := hR2
  clear kR2 hR2
  go_wp2_with fail
  refine hKQ.out _ _ (⟨kC, by rw [← hv.out]; exact cr_nx kC hj, kC.cell 6, kC.cell 7⟩) (fun _ => ?_)
  clear hKQ KQ
  try simp only [Act.put, ka, kb, kc]
  refine wpAnyH_done (by kernel_rfl) ?_ _
  go_end0
  rw [hM.out]
  exact ⟨rfl, _, ⟨_, _, _, _, kR, hR⟩, HC, HN⟩
end Go.Proofs.YtegnfkbmlalkeaaGreat.ref13
namespace Go.Proofs.YtegnfkbmlalkeaaGreat.kit
open Go Go.RowKit kit nums cf lg cr
def RdY (w : World) (g : Nat) (o : Rw) (A : Option Addr) (n : Nat) (xs : List Value) : Prop := RdV w w.heap.size A n xs ∧ ∀ b off, 0 < n → A = some ⟨b, off, none⟩ → Ap g o b
section
variable {w w' : World} {g n : Nat} {o o' : Rw} {A : Option Addr} {xs : List Value}
theorem RdV.block {B : Nat} (h : RdV w B A n xs) {b off : Nat} (hn : 0 < n) (e : A = some ⟨b, off, none⟩) : b < B := by
 obtain ⟨b', off', e', hlt, _⟩ := h.2 hn
 rw [e] at e'
 have := Option.some.inj e'
 simp only [Addr.mk.injEq] at this
 omega
theorem RdV.same {B : Nat} (h : RdV w B A n xs) (hb : ∀ b off, 0 < n → A = some ⟨b, off, none⟩ → w'.heap[b]? = w.heap[b]?) : RdV w' B A n xs := ⟨h.1, fun hn => by
 obtain ⟨b, off, e, hlt, hc⟩ := h.2 hn
 refine ⟨b, off, e, hlt, fun j hj => ?_⟩
 have h1 := World.cell?_of_block (a := ⟨b, off + j, none⟩) (hb b off hn e)
 rw [h1]; exact hc j hj⟩
theorem RdY.below (h : RdY w g o A n xs) (hb : Below w.heap.size w w') : RdY w' g o A n xs := ⟨h.1.on hb hb.size, h.2⟩
theorem RdY.ch (h : RdY w g o A n xs) (hc : Ch g o w w') (hn : Nx o o' w) : RdY w' g o' A n xs :=
 ⟨(h.1.same (fun b off h0 e => hc.block b (h.1.block h0 e) (h.2 b off h0 e).1 (h.2 b off h0 e).2)).more hc.size, fun b off h0 e => (h.2 b off h0 e).next hn (h.1.block h0 e)⟩
theorem RdY.put (h : RdY w g o A n xs) (hp : Put w w' g) : RdY w' g o A n xs :=
 ⟨(h.1.same (fun b off h0 e => hp.other b (h.2 b off h0 e).1)).more (by rw [hp.size]; exact Nat.le_refl _), h.2⟩
theorem RdY.of_own {E : TypeId} {base c : Nat} (h : OwnV E w base (.slice A n c) xs) (hn : xs.length = n) (hg : g < base) (ho : ∀ k, o.row = some k → k < base) : RdY w g o A n xs := by
 obtain ⟨A', c', e, _, _, hR⟩ := h.slice
 rw [hn] at e hR
 injection e with e1 _ _
 subst e1
 exact ⟨hR, fun b off h0 e => by
  have hb := (h.lt b (by rw [e]; rfl)).1
  exact ⟨by omega, fun e2 => by have := ho b e2; omega⟩⟩
end
end Go.Proofs.YtegnfkbmlalkeaaGreat.kit
namespace Go.Proofs.YtegnfkbmlalkeaaGreat.ref13
open Go Go.RowKit kit nums cf lg cr se
def sentF (c : CoL) (l : List Int) : List MsL := (l.filter (fun n => !(n == c.id))).map (sendF c)
theorem sent_yes {c : CoL} {l : List Int} {k : Nat} {n : Int} (h : l[k]? = some n) (hn : n ≠ c.id) : sentF c (l.take (k + 1)) = sentF c (l.take k) ++ [sendF c n] := by
 rw [ref9.take_get h]; unfold sentF; rw [List.filter_append, List.map_append]; simp [hn]
theorem sent_no {c : CoL} {l : List Int} {k : Nat} {n : Int} (h : l[k]? = some n) (hn : n = c.id) : sentF c (l.take (k + 1)) = sentF c (l.take k) := by
 rw [ref9.take_get h]; unfold sentF; rw [List.filter_append, List.map_append]; simp [hn]
theorem sent_len (c : CoL) (l : List Int) : (sentF c l).length ≤ l.length := by unfold sentF; rw [List.length_map]; exact List.length_filter_le _ _
theorem all_any (g : Nat) (c : CoL) (ms : List MsL) (o : Rw) (w : World) (hI : RunI w g c ms o) (hf : Fit c.lg) (hj : (conC c).ok) (hm : mayJ (conC c) = true) (hx : ∀ n : Int, 1 ≤ n → n ≤ 9 → 0 ≤ nxF c n ∧ nxF c n ≤ 2199023255552) (hl : ms.length ≤ 900) : Calls Tryz.prog 63 #[.pointer (some ⟨g, 0, none⟩)] w fun e w' => e = .returned (.tuple #[]) ∧ ∃ o', RunI w' g c (ms ++ allF c) o' ∧ Ch g o w w' ∧ Nx o o' w := by
 have HF := Lh hf
 have HX := Lh hx
 have hl9 := ref9.list_len (unF (conC c) memF)
 have HL := Lh (fun z (hz : z ∈ listF (unF (conC c) memF)) => ref9.list_node hz)
 have HA : Hid (allF c = sentF c (listF (unF (conC c) memF))) := rfl
 rw [HA.out]
 obtain ⟨l, hll⟩ : ∃ z, listF (unF (conC c) memF) = z := ⟨_, rfl⟩
 rw [hll] at hl9 HL ⊢
 obtain ⟨N, hN⟩ : ∃ k, l.length = k := ⟨_, rfl⟩
 rw [hN] at hl9
 have hall : Hid (sentF c l = sentF c (l.take N)) := by show _ = _; rw [← hN, List.take_length]
 rw [hall.out]
 replace hN := Lh hN
 replace hll := Lh hll
 clear hf hx HA hall
 have HJ := Lh hj
 have HM := Lh hm
 clear hj hm
 obtain ⟨A0, n0, p0, v0, kR, hR⟩ := hI
 have HC := Ch.refl g o w
 have HN := Nx.refl o w
 go_enter Tryz.func63, Tryz.ntmps63
 go_wp2_with (first | refine lo_rLj kR ?_ | refine lo_rCj kR ?_)
 have CC := conf_any g c ms o w ⟨_, _, _, _, kR, hR⟩ HF.out
 refine (CC).mono ?_
 rintro e y1 ⟨rfl, hY⟩
 replace HC := HC.trans HN (Ch.of_below g _ hY)
 replace kR := kR.b hY
 replace hR := hR.below hY
 clear hY
 clear CC
 go_wp2_with (first | refine lo_rLj kR ?_ | refine lo_rCj kR ?_)
 have CC := ref10.members_any (conC c) y1 HJ.out HM.out
 refine (CC).mono ?_
 rintro e y2 ⟨rfl, hY⟩
 replace HC := HC.trans HN (Ch.of_below g _ hY)
 replace kR := kR.b hY
 replace hR := hR.below hY
 clear hY
 clear CC
 go_wp2_with (first | refine lo_rLj kR ?_ | refine lo_rCj kR ?_)
 have CC := ref9.list_any (unF (conC c) memF) y2 (un_lt (mem_lt HJ.out.1) (mem_lt HJ.out.2))
 unfold ref9.IsIs at CC
 rw [hll.out, hN.out] at CC
 refine CC.mono ?_
 rintro e2 y3 ⟨A5, c5, rfl, hO5, hY⟩
 clear CC
 have hg5 := Lh kR.lt
 have ho5 := Lh (fun k hk => (hR.row k hk).2)
 replace HC := HC.trans HN (Ch.of_below g _ hY)
 replace kR := kR.b hY
 replace hR := hR.below hY
 clear hY
 have hY5 := RdY.of_own hO5 (by rw [ref9.i64s_length]; exact hN.out) hg5.out ho5.out
 clear hO5 hg5 ho5
 have BI : Hid (RunI y3 g c ms o) := ⟨_, _, _, _, kR, hR⟩
 have BY := Lh hY5
 have BC := Lh HC
 have BN := Lh HN
 clear kR hR hY5 HC HN
 go_wp2_with fail
 go_loopw [3] (fun iv wr => ∃ (k : Nat) (o1 : Rw), k ≤ N ∧ iv = .int .i64 (k : Int) ∧ Hid (RunI wr g c (ms ++ sentF c (l.take k)) o1) ∧ Hid (RdY wr g o1 A5 N (ref9.i64s l)) ∧ Hid (Ch g o w wr) ∧ Hid (Nx o o1 w)) (fun iv _ => N - (intOf iv).toNat)
 case atStart => exact ⟨0, o, by omega, rfl, (by show RunI _ _ _ (ms ++ []) _; rw [List.append_nil]; exact BI.out), BY, BC, BN⟩
 case round =>
  obtain ⟨k, o1, hk, rfl, HI1, HY1, HC1, HN1⟩ := hrel
  obtain ⟨A0, n0, p0, v0, kR, hR⟩ := HI1.out
  have hY5 := HY1.out
  have HC := HC1.out
  have HN := HN1.out
  clear HI1 HY1 HC1 HN1 BI BY BC BN
  by_cases hkN : k < N
  ·
   have ck : (k : Int) < (N : Int) := by omega
   have c0k : (0 : Int) ≤ (k : Int) := by omega
   have wk : IntKind.i64.wrap ((k : Int) + 1) = ((k + 1 : Nat) : Int) := by rw [wrap_sm (by omega) (by omega)]; omega
   obtain ⟨pl, ol, z, hA5, hz, cz⟩ := ref9.rdv_at hY5.1 k hkN
   subst hA5
   have hz9 := HL.out z (List.mem_of_getElem? hz)
   have hlen : (ms ++ sentF c (l.take k)).length ≤ 1000 := by rw [List.length_append]; have := sent_len c (l.take k); rw [List.length_take] at this; omega
   replace hlen := Lh hlen
   replace hz := Lh hz
   replace hz9 := Lh hz9
   obtain ⟨id, hid⟩ : ∃ z, c.id = z := ⟨_, rfl⟩
   go_upto_region 4 with (first | refine lo_rLj kR ?_ | refine lo_rCj kR ?_)
   replace hid := Lh hid
   clear cz
   refine wp_region_held_drew (S := fun wq => wq.cell? ⟨pl, ol + k, none⟩ = some (.int .i64 z) ∧ wq.cell? ⟨g, 0, none⟩ = some (.int .i64 id)) (by kernel_rfl) ?s_all4 (fun hHeld => ?_)
   case s_all4 => exact ⟨by obtain ⟨a1, a2, a3, b1, b2, b3⟩ := ref9.rdv_at hY5.1 k hkN; injection b1 with b1; injection b1 with b4 b5; subst b4; subst b5; rw [hz.out] at b2; rw [Option.some.inj b2]; exact b3, by rw [← hid.out]; exact kR.cell 0⟩
   have hD := (Below.refl wr.heap.size wr).drew
   replace HC := HC.trans HN (Ch.of_below g _ hD)
   replace kR := kR.b hD
   replace hR := hR.below hD
   replace hY5 := hY5.below hD
   clear hD
   generalize wr.drew = y31 at *
   iterate 10 (refine tx 0 _ ?_; try simp only [Act.put, ka, kb, kc])
   refine wpAnyH_done (by kernel_rfl) ?_ _
   by_cases hne : z = id
   ·
    have hb : (z != id) = false := by simp [hne]
    go_wp2_with fail
    go_roundw
    case rel => exact ⟨k + 1, o1, by omega, rfl, (by show RunI _ _ _ _ _; rw [sent_no hz.out (hne.trans hid.out.symm)]; exact ⟨_, _, _, _, kR, hR⟩), Lh hY5, Lh HC, Lh HN⟩
    case measure => simp only [intOf]; omega
   have hb : (z != id) = true := by simp [hne]
   have cz : y31.cell? ⟨pl, ol + k, none⟩ = some (.int .i64 z) := by
    obtain ⟨a1, a2, a3, b1, b2, b3⟩ := ref9.rdv_at hY5.1 k hkN
    injection b1 with b1; injection b1 with b4 b5; subst b4; subst b5; rw [hz.out] at b2; rw [Option.some.inj b2]; exact b3
   go_wp2_with (first | refine lo_rLj kR ?_ | refine lo_rCj kR ?_)
   clear cz
   refine (send_any g c _ o1 z y31 ⟨_, _, _, _, kR, hR⟩ HF.out (by have := hz9.out; omega) (HX.out z hz9.out.1 hz9.out.2) hlen.out).mono ?_
   rintro e y32 ⟨rfl, o32, ⟨A32, n32, p32, v32, kR2, hR2⟩, hc, hn⟩
   replace hY5 := hY5.ch hc hn
   have HN2 := HN.trans HC.size hn
   replace HC := HC.trans HN hc
   replace HN := HN2
   clear HN2 kR hR hc hn
   have kR := kR2
   have hR := hR2
   clear kR2 hR2
   go_wp2_with fail
   go_roundw
   case rel => exact ⟨k + 1, _, by omega, rfl, (by show RunI _ _ _ _ _; rw [sent_yes hz.out (fun h => hne (h.trans hid.out)), ← List.append_assoc]; exact ⟨_, _, _, _, kR, hR⟩), Lh hY5, Lh HC, Lh HN⟩
   case measure => simp only [intOf]; omega
  ·
   obtain rfl : k = N := by omega
   have ck : ¬ ((k : Int) < (k : Int)) := by omega
   go_wp2_with fail
   go_end0
   exact ⟨rfl, _, ⟨_, _, _, _, kR, hR⟩, HC, HN⟩
end Go.Proofs.YtegnfkbmlalkeaaGreat.ref13
namespace Go.Proofs.YtegnfkbmlalkeaaGreat.ref13
open Go Go.RowKit kit nums cf lg cr se
def elB (e : EnL) : Bool := !(e.k == 2) || mayJ e.j
theorem mayG_f {l : LgL} (h : lg.mayF l = false) : mayG l = false := by unfold mayG; rw [h]; rfl
theorem mayG_j {l : LgL} (h : lg.mayF l = true) (hj : mayJ l.j = false) : mayG l = false := by unfold mayG; rw [h, hj]; rfl
theorem mayG_bad {l : LgL} {i : Nat} {x : EnL} (hx : l.es[i]? = some x) (hb : elB x = false) : mayG l = false := by
 unfold mayG; rw [List.all_eq_false.2 ⟨x, List.mem_of_getElem? hx, by show ¬ elB x = true; rw [hb]; simp⟩, Bool.and_false, Bool.and_false]
theorem mayG_good {l : LgL} (h : lg.mayF l = true) (hj : mayJ l.j = true) (hg : ∀ (j : Nat) (x : EnL), l.es[j]? = some x → elB x = true) : mayG l = true := by
 unfold mayG; rw [h, hj, List.all_eq_true.2 (fun x hx => by obtain ⟨j, hj⟩ := List.getElem?_of_mem hx; exact hg j x hj)]; rfl
theorem at_jA {w : World} {b o : Nat} {x : EnL} (h : At w b o (enC x)) : At w b (o + 3) (jC x.j) := fun i u hu => by
 have hi : i < 11 := (List.getElem?_eq_some_iff.1 hu).1
 rw [show o + 3 + i = o + (3 + i) by omega]
 refine h (3 + i) u ?_
 rw [← hu]
 match i, hi with
 | 0, _ => rfl
 | 1, _ => rfl
 | 2, _ => rfl
 | 3, _ => rfl
 | 4, _ => rfl
 | 5, _ => rfl
 | 6, _ => rfl
 | 7, _ => rfl
 | 8, _ => rfl
 | 9, _ => rfl
 | 10, _ => rfl
theorem maylog_any (l : LgL) (A : Option Addr) (n p : Nat) (w : World) (B : Nat) (hR0 : RdE w B A n l.es) (hB : B ≤ w.heap.size) (hn : n ≤ 1000000000) (hj : l.j.ok) (hok : ∀ x ∈ l.es, x.j.ok) : Calls Tryz.prog 54 #[lgV l (.slice A n p)] w fun e w' => e = .returned (.bool (mayG l)) ∧ Below w.heap.size w w' := by
 have hR := hR0.more hB
 clear hR0 hB
 have HJ := Lh hj
 have HOk := Lh hok
 have hn2 := Lh hn
 have R := hR
 have hlen := Lh hR.len
 clear hj hok hR
 go_enter Tryz.func54, Tryz.ntmps54
 go_wp2_with (refine box_L rfl _ rfl l (.slice A n p) rfl ?_)
 intro y1 kL e1 s1
 clear s1
 have HB := e1
 replace R := R.on e1 e1.size
 clear e1
 obtain ⟨mv, hmv⟩ : ∃ z, lg.mayF l = z := ⟨_, rfl⟩
 replace hmv := Lh hmv
 obtain ⟨mj, hmj⟩ : ∃ z, mayJ l.j = z := ⟨_, rfl⟩
 replace hmj := Lh hmj
 go_wp2_with (first | refine lo_Lj kL ?_ | refine lo_lJj kL ?_)
 have CC := ref12.rmay_any l A n p y1 y1.heap.size R (Nat.le_refl _) (by have := hn2.out; omega)
 rw [hmv.out] at CC
 refine (CC).mono ?_
 rintro e y2 ⟨rfl, hY⟩
 replace HB := bt HB hY
 replace kL := kL.b hY
 replace R := R.on hY hY.size
 clear hY
 clear CC
 rcases mv with _ | _
 ·
  go_wp2_with fail
  go_ret
  rw [mayG_f hmv.out]
  exact ⟨rfl, HB⟩
 go_wp2_with (first | refine lo_Lj kL ?_ | refine lo_lJj kL ?_)
 have CC := ref10.mayJ_any l.j y2 HJ.out
 rw [hmj.out] at CC
 refine (CC).mono ?_
 rintro e y3 ⟨rfl, hY⟩
 replace HB := bt HB hY
 replace kL := kL.b hY
 replace R := R.on hY hY.size
 clear hY
 clear CC
 rcases mj with _ | _
 ·
  go_wp2_with fail
  go_ret
  rw [mayG_j hmv.out hmj.out]
  exact ⟨rfl, HB⟩
 have BkL := Lh kL
 clear kL
 have BR := Lh R
 clear R
 have BH := Lh HB
 clear HB
 go_wp2_with fail
 go_loopw [3] (fun iv wr => ∃ i : Nat, i ≤ n ∧ iv = .int .i64 (i : Int) ∧ Hid (Below y3.heap.size y3 wr) ∧ Hid (∀ (j : Nat) (x : EnL), j < i → l.es[j]? = some x → elB x = true)) (fun iv _ => n - (intOf iv).toNat)
 case atStart => exact ⟨0, by omega, rfl, Lh (Below.refl _ _), Lh (fun j x h => absurd h (by omega))⟩
 case round =>
  obtain ⟨i, hi, rfl, HY, HG⟩ := hrel
  by_cases hin : i < n
  ·
   have kL := BkL.out.below HY.out BkL.out.lt
   have R := BR.out.on HY.out HY.out.size
   have HB := HY.out
   have ci : (i : Int) < (n : Int) := by omega
   have c0i : (0 : Int) ≤ (i : Int) := by omega
   have wi : IntKind.i64.wrap ((i : Int) + 1) = ((i + 1 : Nat) : Int) := by have := hn2.out; rw [wrap_sm (by omega) (by omega)]; omega
   have cL : wr.cell? ⟨w.heap.size, 13, none⟩ = some (.slice A n p) := kL.cell 13
   obtain ⟨bb, oo, x, hA9, hlt9, hx, hA⟩ := R.at_ hin
   subst hA9
   have hxo := Lh (HOk.out x (List.mem_of_getElem? hx))
   replace hx := Lh hx
   obtain ⟨xk, hxk⟩ : ∃ q, x.k = q := ⟨_, rfl⟩
   replace hxk := Lh hxk
   have ck1 : wr.cell? ⟨bb, oo + i * 14 + 1, none⟩ = some (.int .i64 xk) := by rw [← hxk.out]; exact hA 1 _ rfl
   by_cases hk2 : xk = 2
   ·
    have hb2 : (xk == 2) = true := by simp [hk2]
    replace hk2 := Lh hk2
    obtain ⟨xj, hxj⟩ : ∃ q, mayJ x.j = q := ⟨_, rfl⟩
    replace hxj := Lh hxj
    have hAj := at_jA hA
    go_wp2_with (first | refine lo_Lj kL ?_ | refine lo_lJj kL ?_ | refine wpList_ldAt _ rfl rfl (cells := jC x.j) rfl hAj (aggJ _) (sizeJ _) ?_)
    clear cL ck1 hA hAj
    have CC := ref10.mayJ_any x.j wr hxo.out
    rw [hxj.out] at CC
    refine (CC).mono ?_
    rintro e y51 ⟨rfl, hY⟩
    replace HB := bt HB hY
    replace kL := kL.b hY
    replace R := R.on hY hY.size
    clear hY
    clear CC
    rcases xj with _ | _
    ·
     have hbad : elB x = false := by unfold elB; rw [hxj.out, hxk.out, hk2.out]; simp
     have hTB := Lh (mayG_bad hx.out hbad)
     clear hbad
     go_wp2_with fail
     go_ret
     rw [hTB.out]
     exact ⟨rfl, BH.out.trans (HB.mono BH.out.size)⟩
    ·
     have hgood : Hid (elB x = true) := by show _ = _; unfold elB; rw [hxj.out]; simp
     go_wp2_with fail
     go_roundw
     case rel => exact ⟨i + 1, by omega, rfl, Lh HB, Lh (fun j z hj hz => by
      rcases Nat.lt_succ_iff_lt_or_eq.1 hj with h | rfl
      · exact HG.out j z h hz
      · rw [hx.out] at hz; obtain rfl := Option.some.inj hz; exact hgood.out)⟩
     case measure => simp only [intOf]; omega
   ·
    have hb2 : (xk == 2) = false := by simp [hk2]
    replace hk2 := Lh hk2
    have hgood : Hid (elB x = true) := by show _ = _; unfold elB; rw [hxk.out]; have := hk2.out; simp [this]
    go_wp2_with fail
    go_roundw
    case rel => exact ⟨i + 1, by omega, rfl, Lh HB, Lh (fun j z hj hz => by
     rcases Nat.lt_succ_iff_lt_or_eq.1 hj with h | rfl
     · exact HG.out j z h hz
     · rw [hx.out] at hz; obtain rfl := Option.some.inj hz; exact hgood.out)⟩
    case measure => simp only [intOf]; omega
  ·
   have kL := BkL.out.below HY.out BkL.out.lt
   have R := BR.out.on HY.out HY.out.size
   have HB := HY.out
   obtain rfl : i = n := by omega
   have ci : ¬ ((i : Int) < (i : Int)) := by omega
   have cL : wr.cell? ⟨w.heap.size, 13, none⟩ = some (.slice A i p) := kL.cell 13
   have hTG := Lh (mayG_good hmv.out hmj.out (fun j x hx => HG.out j x (by have := (List.getElem?_eq_some_iff.1 hx).1; have := hlen.out; omega) hx))
   clear HG
   go_wp2_with fail
   go_ret
   rw [hTG.out]
   exact ⟨rfl, BH.out.trans (HB.mono BH.out.size)⟩
end Go.Proofs.YtegnfkbmlalkeaaGreat.ref13
namespace Go.Proofs.YtegnfkbmlalkeaaGreat.ref13
open Go Go.RowKit kit nums cf lg cr se
def sameC (a b : CoL) : Bool := (a.id == b.id) && ((a.ro == b.ro) && ((a.tm == b.tm) && ((a.vo == b.vo) && ((a.le == b.le) && ((a.wa == b.wa) && ((a.cm == b.cm) && ((a.sf == b.sf) && ((a.sn.toList == b.sn.toList) && (((a.vs : Int) == (b.vs : Int)) && (((a.he : Int) == (b.he : Int)) && ((kit.eqT a.nx b.nx) && ((kit.eqT a.mt b.mt) && (eqL a.lg b.lg)))))))))))))
end Go.Proofs.YtegnfkbmlalkeaaGreat.ref13
namespace Go.Proofs.YtegnfkbmlalkeaaGreat.ref13
open Go Go.RowKit kit nums cf lg cr se
theorem same_13 (a b : CoL) (A : Option Addr) (n p : Nat) (A2 : Option Addr) (n2 p2 : Nat) (w : World) (R1 : RdE w w.heap.size A n a.lg.es) (R2 : RdE w w.heap.size A2 n2 b.lg.es) (hn : n ≤ 1000000000) (e0 : (a.id == b.id) = true) (e1 : (a.ro == b.ro) = true) (e2 : (a.tm == b.tm) = true) (e3 : (a.vo == b.vo) = true) (e4 : (a.le == b.le) = true) (e5 : (a.wa == b.wa) = true) (e6 : (a.cm == b.cm) = true) (e7 : (a.sf == b.sf) = true) (e8 : (a.sn.toList == b.sn.toList) = true) (e9 : ((a.vs : Int) == (b.vs : Int)) = true) (e10 : ((a.he : Int) == (b.he : Int)) = true) (e11 : (kit.eqT a.nx b.nx) = true) (e12 : (kit.eqT a.mt b.mt) = true) : Calls Tryz.prog 19 #[crV a (.slice A n p), crV b (.slice A2 n2 p2)] w fun e w' => e = .returned (.bool (sameC a b)) ∧ Below w.heap.size w w' := by
 have HF : Hid (sameC a b = eqL a.lg b.lg) := by show _ = _; unfold sameC; rw [e0, e1, e2, e3, e4, e5, e6, e7, e8, e9, e10, e11, e12]; first | rfl | simp
 obtain ⟨x0, hx0⟩ : ∃ z, a.id = z := ⟨_, rfl⟩
 obtain ⟨x1, hx1⟩ : ∃ z, a.ro = z := ⟨_, rfl⟩
 obtain ⟨x2, hx2⟩ : ∃ z, a.tm = z := ⟨_, rfl⟩
 obtain ⟨x3, hx3⟩ : ∃ z, a.vo = z := ⟨_, rfl⟩
 obtain ⟨x4, hx4⟩ : ∃ z, a.le = z := ⟨_, rfl⟩
 obtain ⟨x5, hx5⟩ : ∃ z, a.wa = z := ⟨_, rfl⟩
 obtain ⟨x6, hx6⟩ : ∃ z, a.cm = z := ⟨_, rfl⟩
 obtain ⟨x7, hx7⟩ : ∃ z, a.sf = z := ⟨_, rfl⟩
 obtain ⟨x8, hx8⟩ : ∃ z, a.sn = z := ⟨_, rfl⟩
 obtain ⟨x9, hx9⟩ : ∃ z, a.vs = z := ⟨_, rfl⟩
 obtain ⟨x10, hx10⟩ : ∃ z, a.he = z := ⟨_, rfl⟩
 obtain ⟨z0, hz0⟩ : ∃ z, b.id = z := ⟨_, rfl⟩
 obtain ⟨z1, hz1⟩ : ∃ z, b.ro = z := ⟨_, rfl⟩
 obtain ⟨z2, hz2⟩ : ∃ z, b.tm = z := ⟨_, rfl⟩
 obtain ⟨z3, hz3⟩ : ∃ z, b.vo = z := ⟨_, rfl⟩
 obtain ⟨z4, hz4⟩ : ∃ z, b.le = z := ⟨_, rfl⟩
 obtain ⟨z5, hz5⟩ : ∃ z, b.wa = z := ⟨_, rfl⟩
 obtain ⟨z6, hz6⟩ : ∃ z, b.cm = z := ⟨_, rfl⟩
 obtain ⟨z7, hz7⟩ : ∃ z, b.sf = z := ⟨_, rfl⟩
 obtain ⟨z8, hz8⟩ : ∃ z, b.sn = z := ⟨_, rfl⟩
 obtain ⟨z9, hz9⟩ : ∃ z, b.vs = z := ⟨_, rfl⟩
 obtain ⟨z10, hz10⟩ : ∃ z, b.he = z := ⟨_, rfl⟩
 rw [hx0, hz0] at e0
 rw [hx1, hz1] at e1
 rw [hx2, hz2] at e2
 rw [hx3, hz3] at e3
 rw [hx4, hz4] at e4
 rw [hx5, hz5] at e5
 rw [hx6, hz6] at e6
 rw [hx7, hz7] at e7
 rw [hx8, hz8] at e8
 rw [hx9, hz9] at e9
 rw [hx10, hz10] at e10
 have hn2 := Lh hn
 clear hn
 go_enter Tryz.func19, Tryz.ntmps19
 go_wp2_with (refine box_C rfl _ rfl a (.slice A n p) rfl ?_)
 intro y1 kA e1 s1
 clear s1
 have HB := e1
 replace R1 := R1.on e1 e1.size
 replace R2 := R2.on e1 e1.size
 clear e1
 go_wp2_with (refine box_C rfl _ rfl b (.slice A2 n2 p2) rfl ?_)
 intro y2 kB e2 s2
 clear s2
 replace HB := bt HB e2
 replace kA := kA.b e2
 replace R1 := R1.on e2 e2.size
 replace R2 := R2.on e2 e2.size
 clear e2
 generalize y1.heap.size = gkB at *
 have ca0 : y2.cell? ⟨w.heap.size, 0, none⟩ = some (Value.int .i64 x0) := by rw [← hx0]; exact kA.cell 0
 have cb0 : y2.cell? ⟨gkB, 0, none⟩ = some (Value.int .i64 z0) := by rw [← hz0]; exact kB.cell 0
 clear hx0 hz0
 have ca1 : y2.cell? ⟨w.heap.size, 1, none⟩ = some (Value.int .i64 x1) := by rw [← hx1]; exact kA.cell 1
 have cb1 : y2.cell? ⟨gkB, 1, none⟩ = some (Value.int .i64 z1) := by rw [← hz1]; exact kB.cell 1
 clear hx1 hz1
 have ca2 : y2.cell? ⟨w.heap.size, 2, none⟩ = some (Value.int .i64 x2) := by rw [← hx2]; exact kA.cell 2
 have cb2 : y2.cell? ⟨gkB, 2, none⟩ = some (Value.int .i64 z2) := by rw [← hz2]; exact kB.cell 2
 clear hx2 hz2
 have ca3 : y2.cell? ⟨w.heap.size, 3, none⟩ = some (Value.int .i64 x3) := by rw [← hx3]; exact kA.cell 3
 have cb3 : y2.cell? ⟨gkB, 3, none⟩ = some (Value.int .i64 z3) := by rw [← hz3]; exact kB.cell 3
 clear hx3 hz3
 have ca4 : y2.cell? ⟨w.heap.size, 4, none⟩ = some (Value.int .i64 x4) := by rw [← hx4]; exact kA.cell 4
 have cb4 : y2.cell? ⟨gkB, 4, none⟩ = some (Value.int .i64 z4) := by rw [← hz4]; exact kB.cell 4
 clear hx4 hz4
 have ca5 : y2.cell? ⟨w.heap.size, 5, none⟩ = some (Value.int .i64 x5) := by rw [← hx5]; exact kA.cell 5
 have cb5 : y2.cell? ⟨gkB, 5, none⟩ = some (Value.int .i64 z5) := by rw [← hz5]; exact kB.cell 5
 clear hx5 hz5
 have ca6 : y2.cell? ⟨w.heap.size, 6, none⟩ = some (Value.int .i64 x6) := by rw [← hx6]; exact kA.cell 6
 have cb6 : y2.cell? ⟨gkB, 6, none⟩ = some (Value.int .i64 z6) := by rw [← hz6]; exact kB.cell 6
 clear hx6 hz6
 have ca7 : y2.cell? ⟨w.heap.size, 7, none⟩ = some (Value.int .i64 x7) := by rw [← hx7]; exact kA.cell 7
 have cb7 : y2.cell? ⟨gkB, 7, none⟩ = some (Value.int .i64 z7) := by rw [← hz7]; exact kB.cell 7
 clear hx7 hz7
 have ca8 : y2.cell? ⟨w.heap.size, 22, none⟩ = some (Value.string x8) := by rw [← hx8]; exact kA.cell 22
 have cb8 : y2.cell? ⟨gkB, 22, none⟩ = some (Value.string z8) := by rw [← hz8]; exact kB.cell 22
 clear hx8 hz8
 have ca9 : y2.cell? ⟨w.heap.size, 23, none⟩ = some (Value.int .u16 (x9 : Int)) := by rw [← hx9]; exact kA.cell 23
 have cb9 : y2.cell? ⟨gkB, 23, none⟩ = some (Value.int .u16 (z9 : Int)) := by rw [← hz9]; exact kB.cell 23
 clear hx9 hz9
 have ca10 : y2.cell? ⟨w.heap.size, 24, none⟩ = some (Value.int .u16 (x10 : Int)) := by rw [← hx10]; exact kA.cell 24
 have cb10 : y2.cell? ⟨gkB, 24, none⟩ = some (Value.int .u16 (z10 : Int)) := by rw [← hz10]; exact kB.cell 24
 clear hx10 hz10
 have hq1 := fun w => kit.eq_ten a.nx b.nx w
 have hq2 := fun w => kit.eq_ten a.mt b.mt w
 unfold a10V at hq1 hq2
 rw [e11] at hq1
 rw [e12] at hq2
 replace e11 := Lh e11
 replace e12 := Lh e12
 obtain ⟨rl, hrl⟩ : ∃ z, eqL a.lg b.lg = z := ⟨_, rfl⟩
 replace hrl := Lh hrl
 have CC := fun (w' : World) (r1 : RdE w' w'.heap.size A n a.lg.es) (r2 : RdE w' w'.heap.size A2 n2 b.lg.es) => ref12.rsame_any a.lg b.lg A n p A2 n2 p2 w' w'.heap.size w'.heap.size r1 (Nat.le_refl _) r2 (Nat.le_refl _) (by have := hn2.out; omega)
 rw [hrl.out] at CC
 replace CC := Lh CC
 go_wp2_with (first | refine lo_Cj kA ?_ | refine lo_cLj kA ?_ | refine lo_cJj kA ?_ | refine lo_Cj kB ?_ | refine lo_cLj kB ?_ | refine lo_cJj kB ?_ | refine wpList_ldAt _ rfl rfl (cells := a10C a.nx) rfl (at_cN kA) (kit.aggT _) (kit.sizeT _) ?_ | refine wpList_ldAt _ rfl rfl (cells := a10C b.nx) rfl (at_cN kB) (kit.aggT _) (kit.sizeT _) ?_ | refine wpList_ldAt _ rfl rfl (cells := a10C a.mt) rfl (at_cT kA) (kit.aggT _) (kit.sizeT _) ?_ | refine wpList_ldAt _ rfl rfl (cells := a10C b.mt) rfl (at_cT kB) (kit.aggT _) (kit.sizeT _) ?_)
 have C2 := CC.out y2 R1 R2
 clear CC
 refine (C2).mono ?_
 rintro e y3 ⟨rfl, hY⟩
 replace HB := bt HB hY
 replace kA := kA.b hY
 replace kB := kB.b hY
 replace R1 := R1.on hY hY.size
 replace R2 := R2.on hY hY.size
 clear hY
 clear C2
 go_wp2_with fail
 go_ret
 refine ⟨?_, HB⟩
 rw [HF.out, hrl.out]
 rfl
end Go.Proofs.YtegnfkbmlalkeaaGreat.ref13
namespace Go.Proofs.YtegnfkbmlalkeaaGreat.ref13
open Go Go.RowKit kit nums cf lg cr se
theorem sameC_self (a : CoL) : sameC a a = true := by
 unfold sameC
 have h : kit.eqT a.nx a.nx = true := by unfold kit.eqT; simp
 have h2 : kit.eqT a.mt a.mt = true := by unfold kit.eqT; simp
 rw [h, h2, eqL_self]
 simp
theorem same_eq (a : CoL) (A : Option Addr) (n p : Nat) (A2 : Option Addr) (n2 p2 : Nat) (w : World) (R1 : RdE w w.heap.size A n a.lg.es) (R2 : RdE w w.heap.size A2 n2 a.lg.es) (hn : n ≤ 1000000000) : Calls Tryz.prog 19 #[crV a (.slice A n p), crV a (.slice A2 n2 p2)] w fun e w' => e = .returned (.bool true) ∧ Below w.heap.size w w' := by
 have h : kit.eqT a.nx a.nx = true := by unfold kit.eqT; simp
 have h2 : kit.eqT a.mt a.mt = true := by unfold kit.eqT; simp
 have := same_13 a a A n p A2 n2 p2 w R1 R2 hn (by simp) (by simp) (by simp) (by simp) (by simp) (by simp) (by simp) (by simp) (by simp) (by simp) (by simp) h h2
 rwa [sameC_self] at this
end Go.Proofs.YtegnfkbmlalkeaaGreat.ref13
