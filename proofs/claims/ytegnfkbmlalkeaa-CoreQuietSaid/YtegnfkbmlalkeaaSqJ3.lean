/- The document's Tick: plain words, patience. Conditions: those that each theorem names. -/
import Derived.Deep.RegionHeld3
import Derived.Deep.Cut
import Derived.Lib.Hide
import Derived.Test.YtegnfkbmlalkeaaSqKitRn
import Derived.Test.YtegnfkbmlalkeaaSqKitLg
import Derived.Test.YtegnfkbmlalkeaaSqJ0
import Derived.Test.YtegnfkbmlalkeaaSqTail
import Derived.Test.YtegnfkbmlalkeaaSqJ2
import Derived.Test.YtegnfkbmlalkeaaSqJ1
namespace Go.Proofs.Ytegnfkbmlalkeaa.kit
open Go Go.RowKit Go.Proofs.Ytegnfkbmlalkeaa.kit Go.Proofs.Ytegnfkbmlalkeaa.nums Go.Proofs.Ytegnfkbmlalkeaa.cf Go.Proofs.Ytegnfkbmlalkeaa.lg Go.Proofs.Ytegnfkbmlalkeaa.cr
set_option linter.unusedVariables false
theorem OwnM.form {w : World} {base : Nat} {v : Value} {xs : List (MsL × Value)} (h : OwnM w base v xs) : ∃ A c, v = .slice A xs.length c := by
 rcases h.2 with ⟨hv, hn⟩ | ⟨q, cap, cur, rfl, _⟩
 · exact ⟨none, 0, by rw [hv, hn]⟩
 · exact ⟨_, cap, rfl⟩
theorem OwnM.nil (w : World) (base : Nat) : OwnM w base (.slice none 0 0) [] := World.ownsRow_nil w base _ 22
theorem run_app_M (w : World) (base : Nat) (ty : TypeId) (A : Option Addr) (n c : Nat) (xs : List (MsL × Value)) (hn : xs.length = n) (hown : OwnM w base (.slice A n c) xs) (g : Nat) (x : MsL) (Am : Option Addr) (nm pm : Nat) (hx : Blk 50 w g (msC x (.slice Am nm pm))) (hb : n ≤ 100000) (hbase : base ≤ w.heap.size) :
   ∃ v w', (Builtin.append_ #[41, 41] ty #[.slice A n c, .slice (some ⟨g, 0, none⟩) 1 1]).run Try.prog w = .ok v w' ∧ (∃ A' c', v = .slice A' (n + 1) c') ∧ OwnM w' base v (xs ++ [(x, .slice Am nm pm)]) ∧ w.grownBy w' (Value.ownBlock (.slice A n c)) ∧ (∀ k, v.ownBlock = some k → (Value.slice A n c).ownBlock = some k ∨ w.heap.size ≤ k) ∧ Below base w w' := by
 subst hn
 have hR : RdK w w.heap.size (some ⟨g, 0, none⟩) 1 22 (msC x (.slice Am nm pm)) := ⟨rfl, fun _ => ⟨g, 0, rfl, hx.lt, fun j u hu => by rw [Nat.zero_add, hx.cell]; exact hu⟩⟩
 have h1 : ∀ u ∈ msC x (.slice Am nm pm), u.oneCell' = true := fun u hu => List.all_eq_true.1 (ms_one x) u hu
 obtain ⟨A', c', w', hrun, h3, h4, h5⟩ := run_append_k (P := Try.prog) w base 41 ty 50 _ 22 168 Try.underlying41 infoM rfl (by omega) A xs.length c _ hown w.heap.size (some ⟨g, 0, none⟩) 1 1 _ hR h1 (by omega) (by unfold maxLen; omega) hbase
 have h6 := run_append_fresh_k (P := Try.prog) w base 41 ty 50 _ 22 168 Try.underlying41 infoM rfl (by omega) A xs.length c _ hown w.heap.size (some ⟨g, 0, none⟩) 1 1 _ hR h1 (by omega) (by unfold maxLen; omega) hrun
 refine ⟨_, w', hrun, ⟨A', c', rfl⟩, ?_, h5, h6, h4⟩
 unfold OwnM
 rw [List.length_append, List.flatMap_append, List.flatMap_cons, List.flatMap_nil, List.append_nil]
 exact h3
theorem run_bsM (x : MsL) (s : Value) (w : World) : (Instr.buildSlice 41 1 #[(0, msV x s)]).run Try.prog w = .ok (.slice (some ⟨w.heap.size, 0, none⟩) 1 1) (w.alloc (.cells (msC x s).toArray 50)) := by kernel_rfl
theorem run_bsM2 (x : MsL) (s : Value) (w : World) : ∃ v w', (Instr.buildSlice 41 1 #[(0, msV x s)]).run Try.prog w = .ok v w' ∧ v = .slice (some ⟨w.heap.size, 0, none⟩) 1 1 ∧ Blk 50 w' w.heap.size (msC x s) ∧ Below w.heap.size w w' :=
 ⟨_, _, run_bsM x s w, rfl, heap_alloc_new w _, (Below.refl _ _).alloc (Nat.le_refl _) _⟩
end Go.Proofs.Ytegnfkbmlalkeaa.kit
namespace Go.Proofs.Ytegnfkbmlalkeaa.kit
open Go Go.RowKit Go.Proofs.Ytegnfkbmlalkeaa.kit Go.Proofs.Ytegnfkbmlalkeaa.nums Go.Proofs.Ytegnfkbmlalkeaa.cf Go.Proofs.Ytegnfkbmlalkeaa.lg Go.Proofs.Ytegnfkbmlalkeaa.cr
set_option linter.unusedVariables false
theorem j_one (j : JtL) : (jC j).all (·.oneCell') = true := rfl
def zJc : List Value := [.int .u16 0, .int .u16 0, .int .u16 0, .int .i64 0, .int .i64 0, .int .u16 0, .int .u16 0, .int .u16 0, .int .i64 0, .int .i64 0, .bool false]
theorem zeroJv : (Try.prog.info? 30).map (·.zero) = some (some (.agg zJc.toArray)) := by kernel_rfl
section
variable {w : World} {ops : Array Oper} {rest : List Oper} {o : Oper} {a : Act} {Q : Exit → Act → World → Prop} {g : Nat} {E : TypeId} {c : CoL} {m : MsL} {x : EnL} {L : LgL} {s v : Value} {j : JtL}
theorem al_J (hgd : o.guard = none) (ho : o.op = .alloc 30)
   (h : ∀ w', Blk 30 w' w.heap.size zJc → Below w.heap.size w w' → Hid (w'.heap.size = w.heap.size + 1) → wpList Try.prog ops Q rest (a.put o.dst (.pointer (some ⟨w.heap.size, 0, none⟩))) w') : wpList Try.prog ops Q (o :: rest) a w :=
 wpList_al hgd _ ho _ zeroJv zJc rfl h
theorem box_J (hgd : o.guard = none) (p : Operand) (ho : o.op = .box 30 p) (j : JtL) (hx : a.eval p = jV j)
   (h : ∀ w', Blk 30 w' w.heap.size (jC j) → Below w.heap.size w w' → Hid (w'.heap.size = w.heap.size + 1) → wpList Try.prog ops Q rest (a.put o.dst (.pointer (some ⟨w.heap.size, 0, none⟩))) w') : wpList Try.prog ops Q (o :: rest) a w :=
 wpList_box hgd _ p ho _ hx h
theorem st_Jv (hgd : o.guard = none) (q v : Operand) (ho : o.op = .store 30 q v) (j : JtL) (hp : a.eval q = .pointer (some ⟨g, 0, none⟩)) (hv : a.eval v = jV j) (old : List Value) (hK : Blk E w g old) (hl : old.length = 11)
   (h : ∀ w', Blk E w' g (jC j) → Put w w' g → wpList Try.prog ops Q rest (a.put o.dst undef) w') : wpList Try.prog ops Q (o :: rest) a w :=
 wpList_st hgd _ q v ho g _ old E hp hv hK sizeJv hl (j_one j) h
theorem lo_J (p : Operand) (ho : o.op = .load 30 p) (hw : Region.wanted o (yielded ops a.tmps) = true) (hp : a.eval p = .pointer (some ⟨g, 0, none⟩)) (hK : Blk E w g (jC j))
   (h : wpList Try.prog ops Q rest (a.put o.dst (jV j)) w) : wpList Try.prog ops Q (o :: rest) a w :=
 wpList_ldw hw _ p ho g (jC j) E hp hK (aggJ _) (sizeJ _) h
theorem lo_Jj {p : Operand} (hK : Blk E w g (jC j)) (h : wpList Try.prog ops Q rest (a.put o.dst (jV j)) w) (ho : o.op = .load 30 p := by rfl) (hw : Region.wanted o (yielded ops a.tmps) = true := by rfl) (hp : a.eval p = .pointer (some ⟨g, 0, none⟩) := by rfl) : wpList Try.prog ops Q (o :: rest) a w := lo_J p ho hw hp hK h
theorem rld_J {p : Operand} (ho : o.op = .load 30 p) (hp : a.eval p = .pointer (some ⟨g, 0, none⟩)) (hK : Blk E w g (jC j)) : (execOp a.eval o).run Try.prog w = .ok (.value (jV j)) w := run_ldv ho hp hK (aggJ _) (sizeJ _)
theorem lo_cL (p : Operand) (ho : o.op = .load 36 p) (hw : Region.wanted o (yielded ops a.tmps) = true) (hp : a.eval p = .pointer (some ⟨g, 8, none⟩)) (hK : Blk E w g (crC c s))
   (h : wpList Try.prog ops Q rest (a.put o.dst (lgV c.lg s)) w) : wpList Try.prog ops Q (o :: rest) a w := wpList_ldAt p ho hw hp (at_cL hK) (aggL _) (sizeL _) h
theorem lo_cLj {p : Operand} (hK : Blk E w g (crC c s)) (h : wpList Try.prog ops Q rest (a.put o.dst (lgV c.lg s)) w) (ho : o.op = .load 36 p := by rfl) (hw : Region.wanted o (yielded ops a.tmps) = true := by rfl) (hp : a.eval p = .pointer (some ⟨g, 8, none⟩) := by rfl) : wpList Try.prog ops Q (o :: rest) a w := lo_cL p ho hw hp hK h
theorem lo_cJ (p : Operand) (ho : o.op = .load 30 p) (hw : Region.wanted o (yielded ops a.tmps) = true) (hp : a.eval p = .pointer (some ⟨g, 10, none⟩)) (hK : Blk E w g (crC c s))
   (h : wpList Try.prog ops Q rest (a.put o.dst (jV c.lg.j)) w) : wpList Try.prog ops Q (o :: rest) a w := wpList_ldAt p ho hw hp (at_cJ hK) (aggJ _) (sizeJ _) h
theorem lo_cJj {p : Operand} (hK : Blk E w g (crC c s)) (h : wpList Try.prog ops Q rest (a.put o.dst (jV c.lg.j)) w) (ho : o.op = .load 30 p := by rfl) (hw : Region.wanted o (yielded ops a.tmps) = true := by rfl) (hp : a.eval p = .pointer (some ⟨g, 10, none⟩) := by rfl) : wpList Try.prog ops Q (o :: rest) a w := lo_cJ p ho hw hp hK h
theorem lo_mJ (p : Operand) (ho : o.op = .load 30 p) (hw : Region.wanted o (yielded ops a.tmps) = true) (hp : a.eval p = .pointer (some ⟨g, 11, none⟩)) (hK : Blk E w g (msC m s))
   (h : wpList Try.prog ops Q rest (a.put o.dst (jV m.j)) w) : wpList Try.prog ops Q (o :: rest) a w := wpList_ldAt p ho hw hp (at_mJ hK) (aggJ _) (sizeJ _) h
theorem lo_mJj {p : Operand} (hK : Blk E w g (msC m s)) (h : wpList Try.prog ops Q rest (a.put o.dst (jV m.j)) w) (ho : o.op = .load 30 p := by rfl) (hw : Region.wanted o (yielded ops a.tmps) = true := by rfl) (hp : a.eval p = .pointer (some ⟨g, 11, none⟩) := by rfl) : wpList Try.prog ops Q (o :: rest) a w := lo_mJ p ho hw hp hK h
theorem lo_lJ (p : Operand) (ho : o.op = .load 30 p) (hw : Region.wanted o (yielded ops a.tmps) = true) (hp : a.eval p = .pointer (some ⟨g, 2, none⟩)) (hK : Blk E w g (lgC L s))
   (h : wpList Try.prog ops Q rest (a.put o.dst (jV L.j)) w) : wpList Try.prog ops Q (o :: rest) a w := wpList_ldAt p ho hw hp (at_jL hK) (aggJ _) (sizeJ _) h
theorem lo_lJj {p : Operand} (hK : Blk E w g (lgC L s)) (h : wpList Try.prog ops Q rest (a.put o.dst (jV L.j)) w) (ho : o.op = .load 30 p := by rfl) (hw : Region.wanted o (yielded ops a.tmps) = true := by rfl) (hp : a.eval p = .pointer (some ⟨g, 2, none⟩) := by rfl) : wpList Try.prog ops Q (o :: rest) a w := lo_lJ p ho hw hp hK h
theorem rld_cL {p : Operand} (ho : o.op = .load 36 p) (hp : a.eval p = .pointer (some ⟨g, 8, none⟩)) (hK : Blk E w g (crC c s)) : (execOp a.eval o).run Try.prog w = .ok (.value (lgV c.lg s)) w := run_ldAt ho hp (at_cL hK) (aggL _) (sizeL _)
theorem rld_cJ {p : Operand} (ho : o.op = .load 30 p) (hp : a.eval p = .pointer (some ⟨g, 10, none⟩)) (hK : Blk E w g (crC c s)) : (execOp a.eval o).run Try.prog w = .ok (.value (jV c.lg.j)) w := run_ldAt ho hp (at_cJ hK) (aggJ _) (sizeJ _)
end
theorem ldJv {P : Program} {E : TypeId} {w : World} {g : Nat} {j : JtL} (h : Blk E w g (jC j)) : (loadCellsFrom ⟨g, 0, none⟩ 0 11 #[]).run P w = .ok (jC j).toArray w :=
 run_loadCells_list (P := P) w ⟨g, 0, none⟩ (jC j) (fun i v hv => by rw [Addr.add_lit, Nat.zero_add, h.cell]; exact hv)
theorem ldCv {P : Program} {E : TypeId} {w : World} {g : Nat} {c : CoL} {s : Value} (h : Blk E w g (crC c s)) : (loadCellsFrom ⟨g, 0, none⟩ 0 45 #[]).run P w = .ok (crC c s).toArray w :=
 run_loadCells_list (P := P) w ⟨g, 0, none⟩ (crC c s) (fun i v hv => by rw [Addr.add_lit, Nat.zero_add, h.cell]; exact hv)
theorem cr_nx {w : World} {g : Nat} {E : TypeId} {c : CoL} {s : Value} (h : Blk E w g (crC c s)) {k : Nat} (hk : k < 10) : w.cell? ⟨g, 25 + k, none⟩ = some (.int .i64 (c.nx k)) := at_cN h k _ (a10_get c.nx hk)
theorem cr_mt {w : World} {g : Nat} {E : TypeId} {c : CoL} {s : Value} (h : Blk E w g (crC c s)) {k : Nat} (hk : k < 10) : w.cell? ⟨g, 35 + k, none⟩ = some (.int .i64 (c.mt k)) := at_cT h k _ (a10_get c.mt hk)
end Go.Proofs.Ytegnfkbmlalkeaa.kit
namespace Go.Proofs.Ytegnfkbmlalkeaa.kit
open Go Go.RowKit Go.Proofs.Ytegnfkbmlalkeaa.kit Go.Proofs.Ytegnfkbmlalkeaa.nums Go.Proofs.Ytegnfkbmlalkeaa.cf Go.Proofs.Ytegnfkbmlalkeaa.lg Go.Proofs.Ytegnfkbmlalkeaa.cr
set_option linter.unusedVariables false
section
variable {w : World} {a : Act} {o : Oper} {p q : Operand} {x y : Int}
theorem rb_max (ho : o.op = .call { callee := .builtin .max, args := #[p, q], argTypes := #[3, 3] }) (ht : o.type = 3) (hp : a.eval p = .int .i64 x) (hq : a.eval q = .int .i64 y) : (execOp a.eval o).run Try.prog w = .ok (.value (.int .i64 (max x y))) w := by
 have h0 : (Builtin.max_ #[3, 3] 3 #[.int .i64 x, .int .i64 y]).run Try.prog w = .ok (.int .i64 (if x < y then y else x)) w := by go_simp
 have h : (execOp a.eval o).run Try.prog w = .ok (.value (.int .i64 (if x < y then y else x))) w := by
   unfold execOp
   simp only [ho, resolve, invoke, builtin, Sem.run_bind, Sem.run_pure, Result.andThen_ok, List.map_toArray, List.map_cons, List.map_nil, hp, hq, ht, h0]
 rw [h, show (if x < y then y else x) = max x y by split <;> omega]
theorem rb_maxz {z : Int} (ho : o.op = .call { callee := .builtin .max, args := #[p, q], argTypes := #[3, 3] }) (ht : o.type = 3) (hp : a.eval p = .int .i64 x) (hq : a.eval q = .int .i64 y) (hz : max x y = z) : (execOp a.eval o).run Try.prog w = .ok (.value (.int .i64 z)) w := by subst hz; exact rb_max ho ht hp hq
theorem rb_gtr {b : Bool} (ho : o.op = .binOp .gtr 3 p q 3) (hp : a.eval p = .int .i64 x) (hq : a.eval q = .int .i64 y) (hb : decide (x > y) = b) : (execOp a.eval o).run Try.prog w = .ok (.value (.bool b)) w := by
 subst hb
 unfold execOp
 simp only [ho, hp, hq]
 go_simp
end
end Go.Proofs.Ytegnfkbmlalkeaa.kit
namespace Go.Proofs.Ytegnfkbmlalkeaa.kit
open Go Go.RowKit Go.Proofs.Ytegnfkbmlalkeaa.kit Go.Proofs.Ytegnfkbmlalkeaa.nums Go.Proofs.Ytegnfkbmlalkeaa.cf Go.Proofs.Ytegnfkbmlalkeaa.lg Go.Proofs.Ytegnfkbmlalkeaa.cr
set_option linter.unusedVariables false
theorem wpList_val {P : Program} {w : World} {ops : Array Oper} {rest : List Oper} {o : Oper} {a : Act} {Q : Exit → Act → World → Prop} {X : Value} (hw : Region.wanted o (yielded ops a.tmps) = true) (hr : (execOp a.eval o).run P w = .ok (.value X) w)
   (h : wpList P ops Q rest (a.put o.dst X) w) : wpList P ops Q (o :: rest) a w := by
 simp only [wpList, hw, if_true]
 left
 unfold Oper.wp
 rw [hr]
 exact h
theorem rb_e0 {w : World} {a : Act} {o : Oper}   (ho : o.op = .build 61 #[(1, .const (.int .i64 0))])  : (execOp a.eval o).run Try.prog w = .ok (.value (enV zE)) w := by
 have h : (Instr.build 61 #[(1, .int .i64 0)]).run Try.prog w = .ok (enV zE) w := by kernel_rfl
 have hk : ∀ v, a.eval (.const v) = v := fun _ => rfl
 have e : (execOp a.eval o).run Try.prog w = ((Instr.build 61 #[(1, .int .i64 0)]).run Try.prog w).andThen fun v w' => .ok (.value v) w' := by
   unfold execOp
   simp [ho, hk]
 rw [e, h]; rfl
theorem bd_e0 {w : World} {ops : Array Oper} {rest : List Oper} {o : Oper} {a : Act} {Q : Exit → Act → World → Prop}   (ho : o.op = .build 61 #[(1, .const (.int .i64 0))]) (hw : Region.wanted o (yielded ops a.tmps) = true) 
   (h : wpList Try.prog ops Q rest (a.put o.dst (enV zE)) w) : wpList Try.prog ops Q (o :: rest) a w := wpList_val hw (rb_e0  ho ) h
theorem rb_ej {w : World} {a : Act} {o : Oper} {q3 : Operand} (j : JtL) (ho : o.op = .build 61 #[(1, .const (.int .i64 2)), (3, q3)]) (h3 : a.eval q3 = jV j) : (execOp a.eval o).run Try.prog w = .ok (.value (enV { zE with k := 2, j := j })) w := by
 have h : (Instr.build 61 #[(1, .int .i64 2), (3, jV j)]).run Try.prog w = .ok (enV { zE with k := 2, j := j }) w := by kernel_rfl
 have hk : ∀ v, a.eval (.const v) = v := fun _ => rfl
 have e : (execOp a.eval o).run Try.prog w = ((Instr.build 61 #[(1, .int .i64 2), (3, jV j)]).run Try.prog w).andThen fun v w' => .ok (.value v) w' := by
   unfold execOp
   simp [ho, hk, h3]
 rw [e, h]; rfl
end Go.Proofs.Ytegnfkbmlalkeaa.kit
namespace Go.Proofs.Ytegnfkbmlalkeaa.ref13
open Go Go.RowKit Go.Proofs.Ytegnfkbmlalkeaa.kit Go.Proofs.Ytegnfkbmlalkeaa.nums Go.Proofs.Ytegnfkbmlalkeaa.cf Go.Proofs.Ytegnfkbmlalkeaa.lg Go.Proofs.Ytegnfkbmlalkeaa.cr Go.Proofs.Ytegnfkbmlalkeaa.se
set_option linter.unusedVariables false
theorem has_lt (c : CoL) (i : Int) : ∀ k, hasTo c i k < 65536
 | 0 => by show 0 < _; omega
 | k + 1 => by
   unfold hasTo
   split
   · exact withF_lt _ (has_lt c i k)
   · exact has_lt c i k
end Go.Proofs.Ytegnfkbmlalkeaa.ref13
namespace Go.Proofs.Ytegnfkbmlalkeaa.ref13
open Go Go.RowKit Go.Proofs.Ytegnfkbmlalkeaa.kit Go.Proofs.Ytegnfkbmlalkeaa.nums Go.Proofs.Ytegnfkbmlalkeaa.cf Go.Proofs.Ytegnfkbmlalkeaa.lg Go.Proofs.Ytegnfkbmlalkeaa.cr Go.Proofs.Ytegnfkbmlalkeaa.se
set_option linter.unusedVariables false
def couN : Nat → CoL → CoL
 | 0, d => endC (cntC d)
 | f + 1, d => if atC (cntC d).lg ≤ (cntC d).cm ∧ (conC (cntC d)).two = true then couN f (pushC (cntC d) (fiE (conC (cntC d)))) else endC (cntC d)
theorem couC_N (c : CoL) : couC c = couN 1 c := rfl
theorem seek_top (p : Int → Bool) (lo : Int) (k : Nat) (h : p (lo + ((k + 1 : Nat) : Int)) = false) : seekF p lo (k + 1) = seekF p lo k := by
 show (if p (lo + ((k + 1 : Nat) : Int)) = true then _ else _) = _
 rw [h]; rfl
theorem seek_hit (p : Int → Bool) (lo : Int) (k : Nat) (h : p (lo + ((k + 1 : Nat) : Int)) = true) : seekF p lo (k + 1) = lo + ((k + 1 : Nat) : Int) := by
 show (if p (lo + ((k + 1 : Nat) : Int)) = true then _ else _) = _
 rw [h]; rfl
theorem seek_le (p : Int → Bool) (lo : Int) : ∀ k, lo ≤ seekF p lo k ∧ seekF p lo k ≤ lo + k
 | 0 => by simp [seekF]
 | k + 1 => by
   have := seek_le p lo k
   unfold seekF
   split <;> omega
theorem conC_push (d : CoL) (x : EnL) : conC (pushC d x) = if x.k = 2 then x.j else conC d := by
 unfold conC pushC pushF confF
 rw [List.foldl_append]; rfl
theorem lastF_push (d : CoL) (x : EnL) : lastF (pushC d x).lg = lastF d.lg + 1 := by unfold lastF pushC pushF; simp; omega
theorem good_fin {d : CoL} {N : Nat} (h : GoodN d N) (hN : N ≤ 900000) (ht : (conC d).two = true) : GoodN (pushC d (fiE (conC d))) (N + 1) ∧ (conC (pushC d (fiE (conC d)))).two = false := by
 obtain ⟨h1, h2, h3, h4, h5, h6, h7, h8⟩ := h
 have hc : conC (pushC d (fiE (conC d))) = finalJ (conC d) := by rw [conC_push]; rfl
 have hl := lastF_push d (fiE (conC d))
 have hlen : (pushC d (fiE (conC d))).lg.es.length = d.lg.es.length + 1 := by show (d.lg.es ++ [_]).length = _; simp
 have hf : finalJ (conC d) = ⟨(conC d).b, zeroC, false⟩ := by unfold finalJ; rw [ht]; rfl
 refine ⟨⟨⟨h1.1, h1.2.1, by rw [hlen]; omega⟩, by rw [hlen]; omega, h3, h4, by rw [hc]; exact final_ok h5, ?_, h7, by rw [hl]; exact Int.le_trans h8 (by omega)⟩, by rw [hc, hf]⟩
 rw [hc, hf]
 unfold mayJ
 rw [mayJ_b h6 ht]; rfl
theorem good_cnt {d : CoL} {N : Nat} (h : GoodN d N) : GoodN (cntC d) N := by
 obtain ⟨h1, h2, h3, h4, h5, h6, h7, h8⟩ := h
 have hs := seek_le (cmtP d) d.cm (lastF d.lg - d.cm).toNat
 exact ⟨h1, h2, h3, h4, h5, h6, Int.le_trans h7 hs.1, by show seekF _ _ _ ≤ lastF d.lg; omega⟩
end Go.Proofs.Ytegnfkbmlalkeaa.ref13
namespace Go.Proofs.Ytegnfkbmlalkeaa.kit
open Go Go.RowKit Go.Proofs.Ytegnfkbmlalkeaa.kit Go.Proofs.Ytegnfkbmlalkeaa.nums Go.Proofs.Ytegnfkbmlalkeaa.cf Go.Proofs.Ytegnfkbmlalkeaa.lg Go.Proofs.Ytegnfkbmlalkeaa.cr
set_option linter.unusedVariables false
def RdY (w : World) (g : Nat) (o : Rw) (A : Option Addr) (n : Nat) (xs : List Value) : Prop := RdV w w.heap.size A n xs ∧ ∀ b off, 0 < n → A = some ⟨b, off, none⟩ → Ap g o b
section
variable {w w' : World} {g n : Nat} {o o' : Rw} {A : Option Addr} {xs : List Value}
theorem RdV.block {B : Nat} (h : RdV w B A n xs) {b off : Nat} (hn : 0 < n) (e : A = some ⟨b, off, none⟩) : b < B := by
 obtain ⟨b', off', e', hlt, _⟩ := h.2 hn
 rw [e] at e'
 have := Option.some.inj e'
 simp only [Addr.mk.injEq] at this
 omega
theorem RdV.same {B : Nat} (h : RdV w B A n xs) (hb : ∀ b off, 0 < n → A = some ⟨b, off, none⟩ → w'.heap[b]? = w.heap[b]?) : RdV w' B A n xs := ⟨h.1, fun hn => by
 obtain ⟨b, off, e, hlt, hc⟩ := h.2 hn
 refine ⟨b, off, e, hlt, fun j hj => ?_⟩
 have h1 := World.cell?_of_block (a := ⟨b, off + j, none⟩) (hb b off hn e)
 rw [h1]; exact hc j hj⟩
theorem RdY.below (h : RdY w g o A n xs) (hb : Below w.heap.size w w') : RdY w' g o A n xs := ⟨h.1.on hb hb.size, h.2⟩
theorem RdY.put (h : RdY w g o A n xs) (hp : Put w w' g) : RdY w' g o A n xs :=
 ⟨(h.1.same (fun b off h0 e => hp.other b (h.2 b off h0 e).1)).more (by rw [hp.size]; exact Nat.le_refl _), h.2⟩
theorem RdY.of_own {E : TypeId} {base c : Nat} (h : OwnV E w base (.slice A n c) xs) (hn : xs.length = n) (hg : g < base) (ho : ∀ k, o.row = some k → k < base) : RdY w g o A n xs := by
 obtain ⟨A', c', e, _, _, hR⟩ := h.slice
 rw [hn] at e hR
 injection e with e1 _ _
 subst e1
 exact ⟨hR, fun b off h0 e => by
   have hb := (h.lt b (by rw [e]; rfl)).1
   exact ⟨by omega, fun e2 => by have := ho b e2; omega⟩⟩
end
end Go.Proofs.Ytegnfkbmlalkeaa.kit
namespace Go.Proofs.Ytegnfkbmlalkeaa.ref13
open Go Go.RowKit Go.Proofs.Ytegnfkbmlalkeaa.kit Go.Proofs.Ytegnfkbmlalkeaa.nums Go.Proofs.Ytegnfkbmlalkeaa.cf Go.Proofs.Ytegnfkbmlalkeaa.lg Go.Proofs.Ytegnfkbmlalkeaa.cr Go.Proofs.Ytegnfkbmlalkeaa.se
set_option linter.unusedVariables false
theorem endC_nx (d : CoL) : (endC d).nx = d.nx := by unfold endC; split <;> (try split) <;> rfl
theorem endC_lg (d : CoL) : (endC d).lg = d.lg := by unfold endC; split <;> (try split) <;> rfl
theorem endC_id (d : CoL) : (endC d).id = d.id := by unfold endC; split <;> (try split) <;> rfl
theorem endC_cm (d : CoL) : (endC d).cm = d.cm := by unfold endC; split <;> (try split) <;> rfl
theorem good_end {d : CoL} {N : Nat} (h : GoodN d N) : GoodN (endC d) N := by
 unfold GoodN conC
 rw [endC_lg, endC_id, endC_cm]; exact h
theorem good_more {d : CoL} {N M : Nat} (h : GoodN d N) (hm : N ≤ M) : GoodN d M := ⟨h.1, Nat.le_trans h.2.1 hm, h.2.2⟩
theorem good_cou {c : CoL} {N : Nat} (h : GoodN c N) (hN : N ≤ 900000) : GoodN (couC c) (N + 1) := by
 unfold couC
 dsimp only
 split
 · rename_i hc
   exact good_end (good_cnt (good_fin (good_cnt h) hN hc.2).1)
 · exact good_more (good_end (good_cnt h)) (Nat.le_succ _)
theorem couC_nx (c : CoL) : (couC c).nx = c.nx := by
 unfold couC
 dsimp only
 split
 · rw [endC_nx]; rfl
 · rw [endC_nx]; rfl
theorem upd_lt (f : Nat → Int) (k : Nat) (v : Int) : upd (fun i => if i < k then v else f i) k v = fun i => if i < k + 1 then v else f i := by
 funext i
 show (if i = k then v else if i < k then v else f i) = _
 by_cases h1 : i = k
 · rw [if_pos h1, if_pos (by omega)]
 · by_cases h2 : i < k
   · rw [if_neg h1, if_pos h2, if_pos (by omega)]
   · rw [if_neg h1, if_neg h2, if_neg (by omega)]
def leadA (c : CoL) : CoL := { c with ro := 2, le := c.id, wa := 0, he := 0, nx := fun _ => lastF c.lg + 1, mt := z10 }
theorem good_lead {c : CoL} (h : GoodN c 700000) : GoodN (pushC (leadA c) zE) 700001 := by
 obtain ⟨h1, h2, h3, h4, h5, h6, h7, h8⟩ := h
 have hc : conC (pushC (leadA c) zE) = conC c := by rw [conC_push]; rfl
 have hl := lastF_push (leadA c) zE
 have hlen : (pushC (leadA c) zE).lg.es.length = c.lg.es.length + 1 := by show (c.lg.es ++ [_]).length = _; simp
 exact ⟨⟨h1.1, h1.2.1, by rw [hlen]; omega⟩, by rw [hlen]; omega, h3, h4, by rw [hc]; exact h5, by rw [hc]; exact h6, h7, by rw [hl]; exact Int.le_trans h8 (by show lastF c.lg ≤ lastF c.lg + 1; omega)⟩
end Go.Proofs.Ytegnfkbmlalkeaa.ref13
namespace Go.Proofs.Ytegnfkbmlalkeaa.ref13
open Go Go.RowKit Go.Proofs.Ytegnfkbmlalkeaa.kit Go.Proofs.Ytegnfkbmlalkeaa.nums Go.Proofs.Ytegnfkbmlalkeaa.cf Go.Proofs.Ytegnfkbmlalkeaa.lg Go.Proofs.Ytegnfkbmlalkeaa.cr Go.Proofs.Ytegnfkbmlalkeaa.se
set_option linter.unusedVariables false
def RdMs (w : World) (v : Value) (ms : List MsL) : Prop := ∃ xs : List (MsL × Value), OwnM w 0 v xs ∧ xs.map Prod.fst = ms ∧ ∀ x ∈ xs, ∃ A n p, x.2 = .slice A n p ∧ n ≤ p ∧ RdE w w.heap.size A n x.1.es
theorem OwnM.more {w : World} {base base' : Nat} {v : Value} {xs : List (MsL × Value)} (h : OwnM w base v xs) (hb : base' ≤ base) : OwnM w base' v xs := by
 refine ⟨h.1, ?_⟩
 rcases h.2 with hn | ⟨q, cap, cur, rfl, hbq, r⟩
 · exact .inl hn
 · exact .inr ⟨q, cap, cur, rfl, Nat.le_trans hb hbq, r⟩
theorem RdMs.below {w w' : World} {v : Value} {ms : List MsL} (h : RdMs w v ms) (hb : Below w.heap.size w w') : RdMs w' v ms := by
 obtain ⟨xs, h4, h6, h7⟩ := h
 exact ⟨xs, h4.same (fun k _ hk => hb.block k hk), h6, fun x hx => by
   obtain ⟨A5, n5, p5, e5, h8, h9⟩ := h7 x hx
   exact ⟨A5, n5, p5, e5, h8, h9.on hb hb.size⟩⟩
theorem RdMs.nil (w : World) : RdMs w (.slice none 0 0) [] := ⟨[], OwnM.nil w 0, rfl, fun x hx => by cases hx⟩
end Go.Proofs.Ytegnfkbmlalkeaa.ref13
namespace Go.Proofs.Ytegnfkbmlalkeaa.ref13
open Go Go.RowKit Go.Proofs.Ytegnfkbmlalkeaa.kit Go.Proofs.Ytegnfkbmlalkeaa.nums Go.Proofs.Ytegnfkbmlalkeaa.cf Go.Proofs.Ytegnfkbmlalkeaa.lg Go.Proofs.Ytegnfkbmlalkeaa.cr Go.Proofs.Ytegnfkbmlalkeaa.se
set_option linter.unusedVariables false
theorem rb_lss {w : World} {a : Act} {o : Oper} {p q : Operand} {x y : Int} {b : Bool} (ho : o.op = .binOp .lss 3 p q 3) (hp : a.eval p = .int .i64 x) (hq : a.eval q = .int .i64 y) (hb : decide (x < y) = b) : (execOp a.eval o).run Try.prog w = .ok (.value (.bool b)) w := by
 subst hb
 unfold execOp
 simp only [ho, hp, hq]
 go_simp
theorem rb_geq {w : World} {a : Act} {o : Oper} {p q : Operand} {x y : Int} {b : Bool} (ho : o.op = .binOp .geq 3 p q 3) (hp : a.eval p = .int .i64 x) (hq : a.eval q = .int .i64 y) (hb : decide (x ≥ y) = b) : (execOp a.eval o).run Try.prog w = .ok (.value (.bool b)) w := by
 subst hb
 unfold execOp
 simp only [ho, hp, hq]
 go_simp
end Go.Proofs.Ytegnfkbmlalkeaa.ref13
