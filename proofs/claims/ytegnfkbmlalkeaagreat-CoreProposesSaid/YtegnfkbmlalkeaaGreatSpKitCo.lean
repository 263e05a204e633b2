/- Cores, messages and runs as values and as cells in memory. Conditions: those that each theorem names. -/
import Derived.Deep.RegionHeld3
import Derived.Deep.Cut
import Derived.Lib.Hide
import Derived.Test.YtegnfkbmlalkeaaGreatSpJ1
import Derived.Test.YtegnfkbmlalkeaaGreatSpJ0
import Derived.Test.YtegnfkbmlalkeaaGreatSpKitLg
set_option linter.unusedVariables false
set_option maxHeartbeats 16000000
set_option maxRecDepth 10000
namespace Go.Proofs.YtegnfkbmlalkeaaGreat.kit
open Go Go.RowKit kit nums cf lg cr
def crC (c : CoL) (s : Value) : List Value := [.int .i64 c.id, .int .i64 c.ro, .int .i64 c.tm, .int .i64 c.vo, .int .i64 c.le, .int .i64 c.wa, .int .i64 c.cm, .int .i64 c.sf, .int .i64 c.lg.b, .int .i64 c.lg.t, j0 c.lg.j, j1 c.lg.j, j2 c.lg.j, j3 c.lg.j, j4 c.lg.j, j5 c.lg.j, j6 c.lg.j, j7 c.lg.j, j8 c.lg.j, j9 c.lg.j, j10 c.lg.j, s, .string c.sn, .int .u16 (c.vs : Int), .int .u16 (c.he : Int), .int .i64 (c.nx 0), .int .i64 (c.nx 1), .int .i64 (c.nx 2), .int .i64 (c.nx 3), .int .i64 (c.nx 4), .int .i64 (c.nx 5), .int .i64 (c.nx 6), .int .i64 (c.nx 7), .int .i64 (c.nx 8), .int .i64 (c.nx 9), .int .i64 (c.mt 0), .int .i64 (c.mt 1), .int .i64 (c.mt 2), .int .i64 (c.mt 3), .int .i64 (c.mt 4), .int .i64 (c.mt 5), .int .i64 (c.mt 6), .int .i64 (c.mt 7), .int .i64 (c.mt 8), .int .i64 (c.mt 9)]
def crV (c : CoL) (s : Value) : Value := .agg (crC c s).toArray
def msC (m : MsL) (s : Value) : List Value := [.int .i64 m.k, .int .i64 m.f, .int .i64 m.t, .int .i64 m.m, .int .i64 m.i, .int .i64 m.lt, .int .i64 m.c, .int .i64 m.s, .bool m.y, s, .string m.d, j0 m.j, j1 m.j, j2 m.j, j3 m.j, j4 m.j, j5 m.j, j6 m.j, j7 m.j, j8 m.j, j9 m.j, j10 m.j]
def msV (m : MsL) (s : Value) : Value := .agg (msC m s).toArray
def rnC (c : CoL) (s o : Value) : List Value := [.int .i64 c.id, .int .i64 c.ro, .int .i64 c.tm, .int .i64 c.vo, .int .i64 c.le, .int .i64 c.wa, .int .i64 c.cm, .int .i64 c.sf, .int .i64 c.lg.b, .int .i64 c.lg.t, j0 c.lg.j, j1 c.lg.j, j2 c.lg.j, j3 c.lg.j, j4 c.lg.j, j5 c.lg.j, j6 c.lg.j, j7 c.lg.j, j8 c.lg.j, j9 c.lg.j, j10 c.lg.j, s, .string c.sn, .int .u16 (c.vs : Int), .int .u16 (c.he : Int), .int .i64 (c.nx 0), .int .i64 (c.nx 1), .int .i64 (c.nx 2), .int .i64 (c.nx 3), .int .i64 (c.nx 4), .int .i64 (c.nx 5), .int .i64 (c.nx 6), .int .i64 (c.nx 7), .int .i64 (c.nx 8), .int .i64 (c.nx 9), .int .i64 (c.mt 0), .int .i64 (c.mt 1), .int .i64 (c.mt 2), .int .i64 (c.mt 3), .int .i64 (c.mt 4), .int .i64 (c.mt 5), .int .i64 (c.mt 6), .int .i64 (c.mt 7), .int .i64 (c.mt 8), .int .i64 (c.mt 9), o]
def a10C (f : Nat → Int) : List Value := [.int .i64 (f 0), .int .i64 (f 1), .int .i64 (f 2), .int .i64 (f 3), .int .i64 (f 4), .int .i64 (f 5), .int .i64 (f 6), .int .i64 (f 7), .int .i64 (f 8), .int .i64 (f 9)]
def a10V (f : Nat → Int) : Value := .agg (a10C f).toArray
theorem ms_len (m : MsL) (s : Value) : (msC m s).length = 22 := rfl
theorem cr_one (c : CoL) {A : Option Addr} {n p : Nat} : (crC c (.slice A n p)).all (·.oneCell') = true := rfl
theorem ms_one (m : MsL) {A : Option Addr} {n p : Nat} : (msC m (.slice A n p)).all (·.oneCell') = true := rfl
theorem infoM : (Tryz.prog.info? 49).map (fun i => (i.zero, i.size, i.bytes)) = some (some (.agg #[.int .i64 0, .int .i64 0, .int .i64 0, .int .i64 0, .int .i64 0, .int .i64 0, .int .i64 0, .int .i64 0, .bool false, .slice none 0 0, .string ⟨#[]⟩, .int .u16 0, .int .u16 0, .int .u16 0, .int .i64 0, .int .i64 0, .int .u16 0, .int .u16 0, .int .u16 0, .int .i64 0, .int .i64 0, .bool false]), 22, 168) := by kernel_rfl
theorem sizeCv : (Tryz.prog.info? 33).map (·.size) = some 45 := by kernel_rfl
theorem sizeC (w : World) : (sizeOf 33).run Tryz.prog w = .ok 45 w := by
 have h := sizeCv
 cases hq : Tryz.prog.info? 33 with
 | none => simp [hq] at h
 | some i =>
  have hs : i.size = 45 := by simpa [hq] using h
  simp [sizeOf, typeInfo, hq, hs]
theorem aggC (w : World) : (isAgg 33).run Tryz.prog w = .ok true w := by
 simp [isAgg, run_underlying Tryz.underlying33]
section
variable {w : World} {ops : Array Oper} {rest : List Oper} {o : Oper} {a : Act} {Q : Exit → Act → World → Prop} {g : Nat} {E : TypeId} {c : CoL} {m : MsL} {s : Value}
theorem box_C (hgd : o.guard = none) (p : Operand) (ho : o.op = .box 33 p) (c : CoL) (s : Value) (hx : a.eval p = crV c s)
  (h : ∀ w', Blk 33 w' w.heap.size (crC c s) → Below w.heap.size w w' → Hid (w'.heap.size = w.heap.size + 1) → wpList Tryz.prog ops Q rest (a.put o.dst (.pointer (some ⟨w.heap.size, 0, none⟩))) w') : wpList Tryz.prog ops Q (o :: rest) a w :=
 wpList_box hgd _ p ho _ hx h
theorem lo_C (p : Operand) (ho : o.op = .load 33 p) (hw : Region.wanted o (yielded ops a.tmps) = true) (hp : a.eval p = .pointer (some ⟨g, 0, none⟩)) (hK : Blk E w g (crC c s))
  (h : wpList Tryz.prog ops Q rest (a.put o.dst (crV c s)) w) : wpList Tryz.prog ops Q (o :: rest) a w :=
 wpList_ldw hw _ p ho g (crC c s) E hp hK (aggC _) (sizeC _) h
theorem lo_Cj {p : Operand} (hK : Blk E w g (crC c s)) (h : wpList Tryz.prog ops Q rest (a.put o.dst (crV c s)) w) (ho : o.op = .load 33 p := by rfl) (hw : Region.wanted o (yielded ops a.tmps) = true := by rfl) (hp : a.eval p = .pointer (some ⟨g, 0, none⟩) := by rfl) : wpList Tryz.prog ops Q (o :: rest) a w := lo_C p ho hw hp hK h
theorem rld_C {p : Operand} (ho : o.op = .load 33 p) (hp : a.eval p = .pointer (some ⟨g, 0, none⟩)) (hK : Blk E w g (crC c s)) : (execOp a.eval o).run Tryz.prog w = .ok (.value (crV c s)) w := run_ldv ho hp hK (aggC _) (sizeC _)
theorem st_C (hgd : o.guard = none) (q v : Operand) (ho : o.op = .store 33 q v) (c : CoL) (A : Option Addr) (n p : Nat) (hp : a.eval q = .pointer (some ⟨g, 0, none⟩)) (hv : a.eval v = crV c (.slice A n p)) (old : List Value) (hK : Blk E w g old) (hl : old.length = 45)
  (h : ∀ w', Blk E w' g (crC c (.slice A n p)) → Put w w' g → wpList Tryz.prog ops Q rest (a.put o.dst undef) w') : wpList Tryz.prog ops Q (o :: rest) a w :=
 wpList_st hgd _ q v ho g _ old E hp hv hK sizeCv hl (cr_one c) h
end
theorem sizeMv : (Tryz.prog.info? 49).map (·.size) = some 22 := by kernel_rfl
theorem sizeM (w : World) : (sizeOf 49).run Tryz.prog w = .ok 22 w := by
 have h := sizeMv
 cases hq : Tryz.prog.info? 49 with
 | none => simp [hq] at h
 | some i =>
  have hs : i.size = 22 := by simpa [hq] using h
  simp [sizeOf, typeInfo, hq, hs]
theorem aggM (w : World) : (isAgg 49).run Tryz.prog w = .ok true w := by
 simp [isAgg, run_underlying Tryz.underlying49]
section
variable {w : World} {ops : Array Oper} {rest : List Oper} {o : Oper} {a : Act} {Q : Exit → Act → World → Prop} {g : Nat} {E : TypeId} {c : CoL} {m : MsL} {s : Value}
theorem box_M (hgd : o.guard = none) (p : Operand) (ho : o.op = .box 49 p) (m : MsL) (s : Value) (hx : a.eval p = msV m s)
  (h : ∀ w', Blk 49 w' w.heap.size (msC m s) → Below w.heap.size w w' → Hid (w'.heap.size = w.heap.size + 1) → wpList Tryz.prog ops Q rest (a.put o.dst (.pointer (some ⟨w.heap.size, 0, none⟩))) w') : wpList Tryz.prog ops Q (o :: rest) a w :=
 wpList_box hgd _ p ho _ hx h
theorem lo_M (p : Operand) (ho : o.op = .load 49 p) (hw : Region.wanted o (yielded ops a.tmps) = true) (hp : a.eval p = .pointer (some ⟨g, 0, none⟩)) (hK : Blk E w g (msC m s))
  (h : wpList Tryz.prog ops Q rest (a.put o.dst (msV m s)) w) : wpList Tryz.prog ops Q (o :: rest) a w :=
 wpList_ldw hw _ p ho g (msC m s) E hp hK (aggM _) (sizeM _) h
theorem lo_Mj {p : Operand} (hK : Blk E w g (msC m s)) (h : wpList Tryz.prog ops Q rest (a.put o.dst (msV m s)) w) (ho : o.op = .load 49 p := by rfl) (hw : Region.wanted o (yielded ops a.tmps) = true := by rfl) (hp : a.eval p = .pointer (some ⟨g, 0, none⟩) := by rfl) : wpList Tryz.prog ops Q (o :: rest) a w := lo_M p ho hw hp hK h
theorem rld_M {p : Operand} (ho : o.op = .load 49 p) (hp : a.eval p = .pointer (some ⟨g, 0, none⟩)) (hK : Blk E w g (msC m s)) : (execOp a.eval o).run Tryz.prog w = .ok (.value (msV m s)) w := run_ldv ho hp hK (aggM _) (sizeM _)
theorem st_M (hgd : o.guard = none) (q v : Operand) (ho : o.op = .store 49 q v) (m : MsL) (A : Option Addr) (n p : Nat) (hp : a.eval q = .pointer (some ⟨g, 0, none⟩)) (hv : a.eval v = msV m (.slice A n p)) (old : List Value) (hK : Blk E w g old) (hl : old.length = 22)
  (h : ∀ w', Blk E w' g (msC m (.slice A n p)) → Put w w' g → wpList Tryz.prog ops Q rest (a.put o.dst undef) w') : wpList Tryz.prog ops Q (o :: rest) a w :=
 wpList_st hgd _ q v ho g _ old E hp hv hK sizeMv hl (ms_one m) h
end
def zCc : List Value := [.int .i64 0, .int .i64 0, .int .i64 0, .int .i64 0, .int .i64 0, .int .i64 0, .int .i64 0, .int .i64 0, .int .i64 0, .int .i64 0, .int .u16 0, .int .u16 0, .int .u16 0, .int .i64 0, .int .i64 0, .int .u16 0, .int .u16 0, .int .u16 0, .int .i64 0, .int .i64 0, .bool false, .slice none 0 0, .string ⟨#[]⟩, .int .u16 0, .int .u16 0, .int .i64 0, .int .i64 0, .int .i64 0, .int .i64 0, .int .i64 0, .int .i64 0, .int .i64 0, .int .i64 0, .int .i64 0, .int .i64 0, .int .i64 0, .int .i64 0, .int .i64 0, .int .i64 0, .int .i64 0, .int .i64 0, .int .i64 0, .int .i64 0, .int .i64 0, .int .i64 0]
def zMc : List Value := [.int .i64 0, .int .i64 0, .int .i64 0, .int .i64 0, .int .i64 0, .int .i64 0, .int .i64 0, .int .i64 0, .bool false, .slice none 0 0, .string ⟨#[]⟩, .int .u16 0, .int .u16 0, .int .u16 0, .int .i64 0, .int .i64 0, .int .u16 0, .int .u16 0, .int .u16 0, .int .i64 0, .int .i64 0, .bool false]
theorem zeroCv : (Tryz.prog.info? 33).map (·.zero) = some (some (.agg zCc.toArray)) := by kernel_rfl
theorem zeroMv : (Tryz.prog.info? 49).map (·.zero) = some (some (.agg zMc.toArray)) := by kernel_rfl
section
variable {P : Program} {w w' : World} {ops : Array Oper} {rest : List Oper} {o : Oper} {a : Act} {Q : Exit → Act → World → Prop} {g off : Nat} {E : TypeId}
theorem al_C (hgd : o.guard = none) (ho : o.op = .alloc 33)
  (h : ∀ w', Blk 33 w' w.heap.size zCc → Below w.heap.size w w' → Hid (w'.heap.size = w.heap.size + 1) → wpList Tryz.prog ops Q rest (a.put o.dst (.pointer (some ⟨w.heap.size, 0, none⟩))) w') : wpList Tryz.prog ops Q (o :: rest) a w :=
 wpList_al hgd _ ho _ zeroCv zCc rfl h
theorem al_M (hgd : o.guard = none) (ho : o.op = .alloc 49)
  (h : ∀ w', Blk 49 w' w.heap.size zMc → Below w.heap.size w w' → Hid (w'.heap.size = w.heap.size + 1) → wpList Tryz.prog ops Q rest (a.put o.dst (.pointer (some ⟨w.heap.size, 0, none⟩))) w') : wpList Tryz.prog ops Q (o :: rest) a w :=
 wpList_al hgd _ ho _ zeroMv zMc rfl h
theorem Blk.at_ {pre mid post : List Value} (h : Blk E w g (pre ++ (mid ++ post))) : At w g pre.length mid := fun i u hu => by
 have hi := (List.getElem?_eq_some_iff.1 hu).1
 rw [h.cell (pre.length + i), List.getElem?_append_right (by omega), show pre.length + i - pre.length = i by omega, List.getElem?_append_left hi]
 exact hu
theorem run_ldAt {T : TypeId} {p : Operand} {cells : List Value} (ho : o.op = .load T p) (hp : a.eval p = .pointer (some ⟨g, off, none⟩)) (hK : At w g off cells)
  (ha : (isAgg T).run P w = .ok true w) (hs : (sizeOf T).run P w = .ok cells.length w) : (execOp a.eval o).run P w = .ok (.value (.agg cells.toArray)) w := by
 have hl := run_loadCells_list (P := P) w ⟨g, off, none⟩ cells (fun j v hv => by rw [Addr.add_lit]; exact hK j v hv)
 unfold execOp
 simp only [ho, hp, Instr.loadAt, Instr.sureAddr, loadVar, Sem.run_bind, Sem.run_pure, Result.andThen_ok, ha, hs, hl, if_true]
theorem wpList_ldAt {T : TypeId} (p : Operand) (ho : o.op = .load T p) (hw : Region.wanted o (yielded ops a.tmps) = true) {cells : List Value} (hp : a.eval p = .pointer (some ⟨g, off, none⟩)) (hK : At w g off cells)
  (ha : (isAgg T).run P w = .ok true w) (hs : (sizeOf T).run P w = .ok cells.length w) (h : wpList P ops Q rest (a.put o.dst (.agg cells.toArray)) w) : wpList P ops Q (o :: rest) a w := by
 have hr := run_ldAt (w := w) (a := a) ho hp hK ha hs
 simp only [wpList, hw, if_true]
 left
 unfold Oper.wp
 rw [hr]
 exact h
theorem run_stAt {T : TypeId} {p v : Operand} {cells : Array Value} {old new : List Value} (ho : o.op = .store T p v) (hp : a.eval p = .pointer (some ⟨g, off, none⟩)) (hv : a.eval v = .agg cells) (hK : Blk E w g old)
  (hi : (P.info? T).map (·.size) = some cells.size) (hl : off + cells.size ≤ old.length) (h1 : cells.toList.all (·.oneCell') = true) (hn : old.take off ++ cells.toList ++ old.drop (off + cells.size) = new) :
  ∃ w', (execOp a.eval o).run P w = .ok .skip w' ∧ Blk E w' g new ∧ Put w w' g := by
 have hst := run_storeCells_at P g off E cells.toList 0 old.toArray w hK (by simpa using hl) (fun u hu => List.all_eq_true.1 h1 u hu)
 simp only [Nat.add_zero, Array.length_toList] at hst
 have hput := setRow_heap w g old.toArray (old.take off ++ cells.toList ++ old.drop (off + cells.size)).toArray E (0, 0) hK
 rw [hn] at hput
 cases hq : P.info? T with
 | none => simp [hq] at hi
 | some i =>
  have hs : cells.size = i.size := by simp [hq] at hi; omega
  have hrun : (storeVar T ⟨g, off, none⟩ (.agg cells)).run P w = .ok () (w.setRow g new.toArray) := by
   rw [← hn]
   simp [storeVar, sizeOf, typeInfo, hq, Value.cells, hs, hst]
  refine ⟨_, ?_, hput, ⟨fun q hq => setRow_other w g q _ hq, fun B w0 hb hB => below_setRow hb hB _, by simp [World.setRow]⟩⟩
  unfold execOp
  simp only [ho, hp, hv, Instr.storeAt, Instr.sureAddr, Sem.run_bind, Sem.run_pure, Result.andThen_ok, hrun]
theorem wpList_stAt (hgd : o.guard = none) (T : TypeId) (p v : Operand) (ho : o.op = .store T p v) {cells : Array Value} {old : List Value} (new : List Value) (hp : a.eval p = .pointer (some ⟨g, off, none⟩)) (hv : a.eval v = .agg cells) (hK : Blk E w g old)
  (hi : (P.info? T).map (·.size) = some cells.size) (hl : off + cells.size ≤ old.length) (h1 : cells.toList.all (·.oneCell') = true) (hn : old.take off ++ cells.toList ++ old.drop (off + cells.size) = new)
  (h : ∀ w', Blk E w' g new → Put w w' g → wpList P ops Q rest (a.put o.dst undef) w') : wpList P ops Q (o :: rest) a w := by
 refine wpList_plain hgd fun K hK' => ?_
 obtain ⟨w', hr, h2, h3⟩ := run_stAt (P := P) ho hp hv hK hi hl h1 hn
 unfold Oper.wp
 rw [hr]
 exact hK' _ _ (h w' h2 h3)
theorem step_stAt {KQ : Act → World → Prop} {EE : Prop} (hgd : o.guard = none) (T : TypeId) (p v : Operand) (ho : o.op = .store T p v) {cells : Array Value} {old : List Value} (new : List Value) (hp : a.eval p = .pointer (some ⟨g, off, none⟩)) (hv : a.eval v = .agg cells) (hK : Blk E w g old)
  (hi : (P.info? T).map (·.size) = some cells.size) (hl : off + cells.size ≤ old.length) (h1 : cells.toList.all (·.oneCell') = true) (hn : old.take off ++ cells.toList ++ old.drop (off + cells.size) = new)
  (h : ∀ w', Blk E w' g new → Put w w' g → KQ (a.put o.dst undef) w') : if Region.wanted o (yielded ops a.tmps) = true then Oper.wp P o a w KQ Q else EE := by
 have hw : Region.wanted o (yielded ops a.tmps) = true := by simp [Region.wanted, hgd]
 rw [if_pos hw]
 obtain ⟨w', hr, h2, h3⟩ := run_stAt (P := P) ho hp hv hK hi hl h1 hn
 unfold Oper.wp
 rw [hr]
 exact h w' h2 h3
end
theorem at_cL {w : World} {g : Nat} {E : TypeId} {c : CoL} {s : Value} (h : Blk E w g (crC c s)) : At w g 8 (lgC c.lg s) := Blk.at_ (pre := (crC c s).take 8) (mid := lgC c.lg s) (post := (crC c s).drop 22) h
theorem at_cJ {w : World} {g : Nat} {E : TypeId} {c : CoL} {s : Value} (h : Blk E w g (crC c s)) : At w g 10 (jC c.lg.j) := Blk.at_ (pre := (crC c s).take 10) (mid := jC c.lg.j) (post := (crC c s).drop 21) h
theorem at_cN {w : World} {g : Nat} {E : TypeId} {c : CoL} {s : Value} (h : Blk E w g (crC c s)) : At w g 25 (a10C c.nx) := Blk.at_ (pre := (crC c s).take 25) (mid := a10C c.nx) (post := (crC c s).drop 35) h
theorem at_cT {w : World} {g : Nat} {E : TypeId} {c : CoL} {s : Value} (h : Blk E w g (crC c s)) : At w g 35 (a10C c.mt) := Blk.at_ (pre := (crC c s).take 35) (mid := a10C c.mt) (post := []) (by rw [List.append_nil]; exact h)
theorem at_rL {w : World} {g : Nat} {E : TypeId} {c : CoL} {s v : Value} (h : Blk E w g (rnC c s v)) : At w g 8 (lgC c.lg s) := Blk.at_ (pre := (rnC c s v).take 8) (mid := lgC c.lg s) (post := (rnC c s v).drop 22) h
theorem at_rC {w : World} {g : Nat} {E : TypeId} {c : CoL} {s v : Value} (h : Blk E w g (rnC c s v)) : At w g 0 (crC c s) := Blk.at_ (pre := []) (mid := crC c s) (post := [v]) h
theorem at_mJ {w : World} {g : Nat} {E : TypeId} {m : MsL} {s : Value} (h : Blk E w g (msC m s)) : At w g 11 (jC m.j) := Blk.at_ (pre := (msC m s).take 11) (mid := jC m.j) (post := []) (by rw [List.append_nil]; exact h)
theorem a10_get (f : Nat → Int) {k : Nat} (hk : k < 10) : (a10C f)[k]? = some (.int .i64 (f k)) := by
 match k, hk with
 | 0, _ => rfl
 | 1, _ => rfl
 | 2, _ => rfl
 | 3, _ => rfl
 | 4, _ => rfl
 | 5, _ => rfl
 | 6, _ => rfl
 | 7, _ => rfl
 | 8, _ => rfl
 | 9, _ => rfl
end Go.Proofs.YtegnfkbmlalkeaaGreat.kit
