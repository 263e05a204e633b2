/- What the statements' begun comes to, as plain values. It speaks of no program. -/
import Derived.Laws.Tables
import Derived.Laws.MakeOwn
import Derived.Laws.AppendOwn
import Derived.Deep.RegionHeld3
import Derived.Deep.Cut
import Derived.Lib.Hide
import Derived.Test.YtegnfkbmlalkeaaSqKitLg
import Derived.Test.YtegnfkbmlalkeaaSqJ0
import Derived.Test.YtegnfkbmlalkeaaSqCq13
import Derived.Test.YtegnfkbmlalkeaaSqSetsI
import Derived.Test.YtegnfkbmlalkeaaSqJ1
namespace Go.Proofs.Ytegnfkbmlalkeaa.kit
open Go Go.RowKit Go.Proofs.Ytegnfkbmlalkeaa.nums
set_option linter.unusedVariables false
structure Put (w w' : World) (g : Nat) : Prop where
 other : ∀ q, q ≠ g → w'.heap[q]? = w.heap[q]?
 below : ∀ B w0, Below B w0 w → B ≤ g → Below B w0 w'
 size : w'.heap.size = w.heap.size
theorem Blk.put {w w' : World} {g q : Nat} {E : TypeId} {cs : List Value} (h : Blk E w q cs) (hp : Put w w' g) (hq : q ≠ g) : Blk E w' q cs := (hp.other q hq).trans h
theorem put_setRow {w : World} {g : Nat} {old : List Value} {E : TypeId} (hK : Blk E w g old) (cells : Array Value) : Blk E (w.setRow g cells) g cells.toList ∧ Put w (w.setRow g cells) g := by
 refine ⟨?_, ⟨fun q hq => setRow_other w g q cells hq, fun B w0 hb hB => below_setRow hb hB cells, by simp [World.setRow]⟩⟩
 have := setRow_heap w g old.toArray cells E (0, 0) hK
 unfold Blk
 rw [this]
section
variable {P : Program} {w : World} {ops : Array Oper} {rest : List Oper} {o : Oper} {a : Act} {Q : Exit → Act → World → Prop}
theorem wpList_st (hgd : o.guard = none) (T : TypeId) (p v : Operand) (ho : o.op = .store T p v) (g : Nat) (cells : Array Value) (old : List Value) (E : TypeId) (hp : a.eval p = .pointer (some ⟨g, 0, none⟩)) (hv : a.eval v = .agg cells) (hK : Blk E w g old)
   (hi : (P.info? T).map (·.size) = some cells.size) (hl : old.length = cells.size) (h1 : cells.toList.all (·.oneCell') = true)
   (h : ∀ w', Blk E w' g cells.toList → Put w w' g → wpList P ops Q rest (a.put o.dst undef) w') : wpList P ops Q (o :: rest) a w := by
 refine wpList_plain hgd fun K hK' => ?_
 have hrun := run_storeVar_row (P := P) w g E T old.toArray cells hK hi (by simpa using hl) (Array.all_eq_true_iff_forall_mem.2 (fun u hu => List.all_eq_true.1 h1 u (by simpa using hu)))
 obtain ⟨k1, k2⟩ := put_setRow hK cells
 unfold Oper.wp execOp
 simp only [ho, hp, hv, Instr.storeAt, Instr.sureAddr, Sem.run_bind, Sem.run_pure, Result.andThen_ok, hrun]
 exact hK' _ _ (h _ k1 k2)
theorem wpList_al (hgd : o.guard = none) (T : TypeId) (ho : o.op = .alloc T) (z : Value) (hz : (P.info? T).map (·.zero) = some (some z)) (cells : List Value) (hc : z.cells.toList = cells)
   (h : ∀ w', Blk T w' w.heap.size cells → Below w.heap.size w w' → Hid (w'.heap.size = w.heap.size + 1) → wpList P ops Q rest (a.put o.dst (.pointer (some ⟨w.heap.size, 0, none⟩))) w') : wpList P ops Q (o :: rest) a w := by
 subst hc
 refine wpList_plain hgd fun K hK' => ?_
 cases hq : P.info? T with
 | none => simp [hq] at hz
 | some i =>
   have hz' : i.zero = some z := by simpa [hq] using hz
   unfold Oper.wp execOp
   simp [ho, Instr.alloc, zeroValue, typeInfo, hq, hz', newVar, newRow, Sem.run_bind, Sem.run_pure]
   refine hK' _ _ (h _ (heap_alloc_new w _) ((Below.refl _ _).alloc (Nat.le_refl _) _) (by show (w.heap.push _).size = _; simp))
theorem wpList_ldw (hw : Region.wanted o (yielded ops a.tmps) = true) (T : TypeId) (p : Operand) (ho : o.op = .load T p) (g : Nat) (cells : List Value) (E : TypeId) (hp : a.eval p = .pointer (some ⟨g, 0, none⟩)) (hK : Blk E w g cells)
   (ha : (isAgg T).run P w = .ok true w) (hs : (sizeOf T).run P w = .ok cells.length w) (h : wpList P ops Q rest (a.put o.dst (.agg cells.toArray)) w) : wpList P ops Q (o :: rest) a w := by
 have hl := run_loadCells_list (P := P) w ⟨g, 0, none⟩ cells (fun j v hv => by rw [Addr.add_lit, Nat.zero_add, hK.cell]; exact hv)
 simp only [wpList, hw, if_true]
 left
 unfold Oper.wp execOp
 simp only [ho, hp, Instr.loadAt, Instr.sureAddr, loadVar, Sem.run_bind, Sem.run_pure, Result.andThen_ok, ha, hs, hl, if_true]
 exact h
theorem run_ldv {T : TypeId} {p : Operand} {g : Nat} {cells : List Value} {E : TypeId} (ho : o.op = .load T p) (hp : a.eval p = .pointer (some ⟨g, 0, none⟩)) (hK : Blk E w g cells)
   (ha : (isAgg T).run P w = .ok true w) (hs : (sizeOf T).run P w = .ok cells.length w) : (execOp a.eval o).run P w = .ok (.value (.agg cells.toArray)) w := by
 have hl := run_loadCells_list (P := P) w ⟨g, 0, none⟩ cells (fun j v hv => by rw [Addr.add_lit, Nat.zero_add, hK.cell]; exact hv)
 unfold execOp
 simp only [ho, hp, Instr.loadAt, Instr.sureAddr, loadVar, Sem.run_bind, Sem.run_pure, Result.andThen_ok, ha, hs, hl, if_true]
end
theorem sizeLv : (Try.prog.info? 36).map (·.size) = some 14 := by kernel_rfl
end Go.Proofs.Ytegnfkbmlalkeaa.kit
namespace Go.Proofs.Ytegnfkbmlalkeaa.kit
open Go Go.RowKit Go.Proofs.Ytegnfkbmlalkeaa.nums Go.Proofs.Ytegnfkbmlalkeaa.cf Go.Proofs.Ytegnfkbmlalkeaa.lg
set_option linter.unusedVariables false
theorem wrap_sm {x : Int} (h1 : -9223372036854775808 ≤ x) (h2 : x ≤ 9223372036854775807) : IntKind.i64.wrap x = x := by
 rw [IntKind.wrap_i64]; omega
theorem lg_one (L : LgL) {A : Option Addr} {n c : Nat} : (lgC L (.slice A n c)).all (·.oneCell') = true := rfl
section
variable {P : Program} {w : World} {ops : Array Oper} {rest : List Oper} {o : Oper} {a : Act} {Q : Exit → Act → World → Prop}
theorem wpList_box (hgd : o.guard = none) (T : TypeId) (x : Operand) (ho : o.op = .box T x) (cells : Array Value) (hx : a.eval x = .agg cells)
   (h : ∀ w', Blk T w' w.heap.size cells.toList → Below w.heap.size w w' → Hid (w'.heap.size = w.heap.size + 1) → wpList P ops Q rest (a.put o.dst (.pointer (some ⟨w.heap.size, 0, none⟩))) w') : wpList P ops Q (o :: rest) a w := by
 refine wpList_plain hgd fun K hK' => ?_
 unfold Oper.wp execOp
 simp [ho, hx, Instr.box, newVar, newRow, Value.cells]
 refine hK' _ _ (h _ (heap_alloc_new w _) ((Below.refl _ _).alloc (Nat.le_refl _) _) (by show (w.heap.push _).size = _; simp))
end
section
variable {w : World} {ops : Array Oper} {rest : List Oper} {o : Oper} {a : Act} {Q : Exit → Act → World → Prop} {g : Nat} {E : TypeId} {L M : LgL} {s : Value} {x y : EnL}
theorem box_L (hgd : o.guard = none) (p : Operand) (ho : o.op = .box 36 p) (L : LgL) (s : Value) (hx : a.eval p = lgV L s)
   (h : ∀ w', Blk 36 w' w.heap.size (lgC L s) → Below w.heap.size w w' → Hid (w'.heap.size = w.heap.size + 1) → wpList Try.prog ops Q rest (a.put o.dst (.pointer (some ⟨w.heap.size, 0, none⟩))) w') : wpList Try.prog ops Q (o :: rest) a w :=
 wpList_box hgd _ p ho _ hx h
theorem box_E (hgd : o.guard = none) (p : Operand) (ho : o.op = .box 61 p) (x : EnL) (hx : a.eval p = enV x)
   (h : ∀ w', Blk 61 w' w.heap.size (enC x) → Below w.heap.size w w' → Hid (w'.heap.size = w.heap.size + 1) → wpList Try.prog ops Q rest (a.put o.dst (.pointer (some ⟨w.heap.size, 0, none⟩))) w') : wpList Try.prog ops Q (o :: rest) a w :=
 wpList_box hgd _ p ho _ hx h
theorem ld_L (hw : Region.wanted o (yielded ops a.tmps) = true) (p : Operand) (ho : o.op = .load 36 p) (hp : a.eval p = .pointer (some ⟨g, 0, none⟩)) (hK : Blk E w g (lgC L s))
   (h : wpList Try.prog ops Q rest (a.put o.dst (lgV L s)) w) : wpList Try.prog ops Q (o :: rest) a w :=
 wpList_ldw hw _ p ho g (lgC L s) E hp hK (aggL _) (sizeL _) h
theorem ld_E (hw : Region.wanted o (yielded ops a.tmps) = true) (p : Operand) (ho : o.op = .load 61 p) (hp : a.eval p = .pointer (some ⟨g, 0, none⟩)) (hK : Blk E w g (enC x))
   (h : wpList Try.prog ops Q rest (a.put o.dst (enV x)) w) : wpList Try.prog ops Q (o :: rest) a w :=
 wpList_ldw hw _ p ho g (enC x) E hp hK (aggE _) (sizeE _) h
theorem rld_L {p : Operand} (ho : o.op = .load 36 p) (hp : a.eval p = .pointer (some ⟨g, 0, none⟩)) (hK : Blk E w g (lgC L s)) : (execOp a.eval o).run Try.prog w = .ok (.value (lgV L s)) w := run_ldv ho hp hK (aggL _) (sizeL _)
end
theorem RdE.put {w w' : World} {g B n : Nat} {A : Option Addr} {es : List EnL} (h : RdE w B A n es) (hp : Put w w' g) (hg : B ≤ g) : RdE w' B A n es := h.below (hp.below _ _ (Below.refl _ _) hg)
theorem OwnE.put {w w' : World} {g base : Nat} {v : Value} {es : List EnL} (h : OwnE w base v es) (hp : Put w w' g) (hg : g < base) : OwnE w' base v es := h.keep fun q hq => hp.other q (by omega)
def RdN (w : World) (g : Nat) (A : Option Addr) (n : Nat) (es : List EnL) : Prop := RdE w w.heap.size A n es ∧ ∀ b o, 0 < n → A = some ⟨b, o, none⟩ → b ≠ g
theorem RdN.below {w w' : World} {g n : Nat} {A : Option Addr} {es : List EnL} (h : RdN w g A n es) (hb : Below w.heap.size w w') : RdN w' g A n es := ⟨h.1.on hb hb.size, h.2⟩
theorem RdN.put {w w' : World} {g n : Nat} {A : Option Addr} {es : List EnL} (h : RdN w g A n es) (hp : Put w w' g) : RdN w' g A n es := ⟨⟨h.1.1, fun hn => by
 obtain ⟨b, o, e, hlt, hc⟩ := h.1.2 hn
 refine ⟨b, o, e, by rw [hp.size]; exact hlt, fun j x hx q u hu => ?_⟩
 have hk := hp.other b (h.2 b o hn e)
 have := hc j x hx q u hu
 simpa [World.cell?, hk] using this⟩, h.2⟩
theorem RdN.of_rd {w : World} {g B n : Nat} {A : Option Addr} {es : List EnL} (h : RdE w B A n es) (hb : B ≤ g) (hB : B ≤ w.heap.size) : RdN w g A n es := ⟨h.more hB, fun b o hn e => by
 obtain ⟨b', o', e', hlt, _⟩ := h.2 hn
 rw [e] at e'
 have := Option.some.inj e'
 simp only [Addr.mk.injEq] at this
 omega⟩
theorem RdN.of_own {w : World} {g base n c : Nat} {A : Option Addr} {es : List EnL} (h : OwnE w base (.slice A n c) es) (hg : g < base) : RdN w g A n es := ⟨h.cap.2.2.2, fun b o hn e => by
 rcases h.2 with ⟨hv, hn0⟩ | ⟨g', cap, cur, hv, hb, _⟩
 · simp only [Value.slice.injEq] at hv
   rw [hv.1] at e; cases e
 · simp only [Value.slice.injEq] at hv
   rw [hv.1] at e
   have := Option.some.inj e
   simp only [Addr.mk.injEq] at this
   omega⟩
end Go.Proofs.Ytegnfkbmlalkeaa.kit
namespace Go.Proofs.Ytegnfkbmlalkeaa.kit
open Go Go.RowKit Go.Proofs.Ytegnfkbmlalkeaa.nums Go.Proofs.Ytegnfkbmlalkeaa.cf Go.Proofs.Ytegnfkbmlalkeaa.lg
set_option linter.unusedVariables false
theorem put_set (w : World) (g i : Nat) (u : Value) : Put w (w.setCell ⟨g, i, none⟩ u) g :=
 ⟨fun q hq => Below.heap_setCell w ⟨g, i, none⟩ u q hq, fun B w0 hb hB => hb.setCell (p := ⟨g, i, none⟩) hB u, by simp [World.setCell]⟩
def jC (j : JtL) : List Value := [j0 j, j1 j, j2 j, j3 j, j4 j, j5 j, j6 j, j7 j, j8 j, j9 j, j10 j]
section
variable {w : World} {ops : Array Oper} {rest : List Oper} {o : Oper} {a : Act} {Q : Exit → Act → World → Prop} {g : Nat} {E : TypeId} {L M : LgL} {s : Value} {x y : EnL}
theorem lo_L (p : Operand) (ho : o.op = .load 36 p) (hw : Region.wanted o (yielded ops a.tmps) = true) (hp : a.eval p = .pointer (some ⟨g, 0, none⟩)) (hK : Blk E w g (lgC L s))
   (h : wpList Try.prog ops Q rest (a.put o.dst (lgV L s)) w) : wpList Try.prog ops Q (o :: rest) a w := ld_L hw p ho hp hK h
theorem lo_Lj {p : Operand} (hK : Blk E w g (lgC L s)) (h : wpList Try.prog ops Q rest (a.put o.dst (lgV L s)) w) (ho : o.op = .load 36 p := by rfl) (hw : Region.wanted o (yielded ops a.tmps) = true := by rfl) (hp : a.eval p = .pointer (some ⟨g, 0, none⟩) := by rfl) : wpList Try.prog ops Q (o :: rest) a w := lo_L p ho hw hp hK h
theorem lo_E (p : Operand) (ho : o.op = .load 61 p) (hw : Region.wanted o (yielded ops a.tmps) = true) (hp : a.eval p = .pointer (some ⟨g, 0, none⟩)) (hK : Blk E w g (enC x))
   (h : wpList Try.prog ops Q rest (a.put o.dst (enV x)) w) : wpList Try.prog ops Q (o :: rest) a w := ld_E hw p ho hp hK h
theorem lo_Ej {p : Operand} (hK : Blk E w g (enC x)) (h : wpList Try.prog ops Q rest (a.put o.dst (enV x)) w) (ho : o.op = .load 61 p := by rfl) (hw : Region.wanted o (yielded ops a.tmps) = true := by rfl) (hp : a.eval p = .pointer (some ⟨g, 0, none⟩) := by rfl) : wpList Try.prog ops Q (o :: rest) a w := lo_E p ho hw hp hK h
theorem at_jL (h : Blk E w g (lgC L s)) : At w g 2 (jC L.j) := fun i u hu => by
 rw [h.cell (2 + i)]
 have hi : i < 11 := (List.getElem?_eq_some_iff.1 hu).1
 rw [← hu]
 show (lgC L s)[2 + i]? = (jC L.j)[i]?
 rw [show lgC L s = [.int .i64 L.b, .int .i64 L.t] ++ (jC L.j ++ [s]) from rfl, List.getElem?_append_right (by show 2 ≤ _; omega), List.getElem?_append_left (by show _ < 11; simp; omega)]
 congr 1
 show 2 + i - 2 = i
 omega
theorem sizeJv : (Try.prog.info? 30).map (·.size) = some 11 := by kernel_rfl
end
end Go.Proofs.Ytegnfkbmlalkeaa.kit
namespace Go.Proofs.Ytegnfkbmlalkeaa.kit
open Go Go.RowKit Go.Proofs.Ytegnfkbmlalkeaa.kit Go.Proofs.Ytegnfkbmlalkeaa.nums Go.Proofs.Ytegnfkbmlalkeaa.cf Go.Proofs.Ytegnfkbmlalkeaa.lg
set_option linter.unusedVariables false
theorem Put.refl (w : World) (g : Nat) : Put w w g := ⟨fun _ _ => rfl, fun _ _ h _ => h, rfl⟩
theorem OwnE.blk_lt {w : World} {base n c : Nat} {A : Option Addr} {es : List EnL} (h : OwnE w base (.slice A n c) es) : ∀ b o, A = some ⟨b, o, none⟩ → base ≤ b ∧ b < w.heap.size := fun b o e => by
 rcases h.2 with ⟨hv, hn⟩ | ⟨g, cap, cur, hv, hbg, hg, r⟩
 · simp only [Value.slice.injEq] at hv
   rw [hv.1] at e; cases e
 · simp only [Value.slice.injEq] at hv
   rw [hv.1] at e
   have := Option.some.inj e
   simp only [Addr.mk.injEq] at this
   have h2 := lt_of_block hg
   omega
end Go.Proofs.Ytegnfkbmlalkeaa.kit
namespace Go.Proofs.Ytegnfkbmlalkeaa.cr
open Go.Proofs.Ytegnfkbmlalkeaa.nums Go.Proofs.Ytegnfkbmlalkeaa.se Go.Proofs.Ytegnfkbmlalkeaa.cf Go.Proofs.Ytegnfkbmlalkeaa.lg
set_option linter.unusedVariables false
def shTo (v t : Nat) : Nat → CfL
 | 0 => zeroC
 | n + 1 => if n + 1 ≤ v then { shTo v t n with v := withF (shTo v t n).v ((n + 1 : Nat) : Int) } else if n + 1 ≤ v + t then { shTo v t n with w := withF (shTo v t n).w ((n + 1 : Nat) : Int) } else { shTo v t n with l := withF (shTo v t n).l ((n + 1 : Nat) : Int) }
def shE (v t e : Nat) : Nat := (v + t) / 2 + 1 + e % (v + t - ((v + t) / 2 + 1) + 1)
def shK (v t e : Nat) : Nat := v + t - shE v t e + 1
def shC (v t l e : Nat) : CfL := { shTo v t (v + t + l) with e := (shE v t e : Int), k := (shK v t e : Int) }
def shJ (v t l e : Nat) : JtL := ⟨shC v t l e, zeroC, false⟩
theorem shTo_lt (v t : Nat) : ∀ n, (shTo v t n).v < 65536 ∧ (shTo v t n).w < 65536 ∧ (shTo v t n).l < 65536
 | 0 => ⟨by show 0 < 65536; omega, by show 0 < 65536; omega, by show 0 < 65536; omega⟩
 | n + 1 => by
   obtain ⟨h1, h2, h3⟩ := shTo_lt v t n
   unfold shTo
   split
   · exact ⟨withF_lt _ h1, h2, h3⟩
   · split
     · exact ⟨h1, withF_lt _ h2, h3⟩
     · exact ⟨h1, h2, withF_lt _ h3⟩
theorem shTo_ek (v t : Nat) : ∀ n, (shTo v t n).e = 0 ∧ (shTo v t n).k = 0
 | 0 => ⟨rfl, rfl⟩
 | n + 1 => by
   have := shTo_ek v t n
   unfold shTo
   split
   · exact this
   · split
     · exact this
     · exact this
set_option maxRecDepth 100000 in
theorem sh_all : ∀ v, v < 4 → ∀ t, t < 3 → ∀ l, l < 3 → ∀ e, e < 3 → e < v + 1 + t - ((v + 1 + t) / 2 + 1) + 1 → mayC { shTo (v + 1) t (v + 1 + t + l) with e := (((v + 1 + t) / 2 + 1 + e : Nat) : Int), k := ((v + 1 + t - ((v + 1 + t) / 2 + 1 + e) + 1 : Nat) : Int) } = true := by
 decide
theorem sh_may {v t l : Nat} (hv : 1 ≤ v ∧ v ≤ 4) (ht : t ≤ 2) (hl : l ≤ 2) (e : Nat) : mayJ (shJ v t l e) = true := by
 unfold mayJ shJ
 dsimp only
 obtain ⟨u, rfl⟩ : ∃ u, v = u + 1 := ⟨v - 1, by omega⟩
 have hm : e % (u + 1 + t - ((u + 1 + t) / 2 + 1) + 1) < u + 1 + t - ((u + 1 + t) / 2 + 1) + 1 := Nat.mod_lt _ (by omega)
 have := sh_all u (by omega) t (by omega) l (by omega) (e % (u + 1 + t - ((u + 1 + t) / 2 + 1) + 1)) (by omega) hm
 rw [show mayC (shC (u + 1) t l e) = true from this]
 rfl
end Go.Proofs.Ytegnfkbmlalkeaa.cr
namespace Go.Proofs.Ytegnfkbmlalkeaa.confi
open Go Go.RowKit Go.Proofs.Ytegnfkbmlalkeaa.kit Go.Proofs.Ytegnfkbmlalkeaa.nums Go.Proofs.Ytegnfkbmlalkeaa.se Go.Proofs.Ytegnfkbmlalkeaa.cf
set_option linter.unusedVariables false
theorem voters_any (c : CfL) (w : World) (h : c.ok) : Calls Try.prog 37 #[cfV c] w fun e w' => e = .returned (.int .u16 ((c.v : Nat) : Int)) ∧ Below w.heap.size w w' := by
 unfold cfV
 obtain ⟨cv, cw, cl, ce, ck⟩ := c
 dsimp only [votF, datF, memF] at *
 have hB := (Below.refl w.heap.size w).alloc (Nat.le_refl _) (.cells #[.int .u16 (cv : Int), .int .u16 (cw : Int), .int .u16 (cl : Int), .int .i64 ce, .int .i64 ck] 28)
 clear h
 go_enter Try.func37, Try.ntmps37
 go_wp2_with fail
 go_ret
 exact ⟨rfl, hB⟩
theorem voting_any (c : CfL) (w : World) (h : c.ok) : Calls Try.prog 62 #[cfV c] w fun e w' => e = .returned (.int .u16 ((votF c : Nat) : Int)) ∧ Below w.heap.size w w' := by
 have HA := bits_or_u16_nat c.v c.w h.1 h.2.1
 unfold cfV
 obtain ⟨cv, cw, cl, ce, ck⟩ := c
 dsimp only [votF, datF, memF] at *
 have hB := (Below.refl w.heap.size w).alloc (Nat.le_refl _) (.cells #[.int .u16 (cv : Int), .int .u16 (cw : Int), .int .u16 (cl : Int), .int .i64 ce, .int .i64 ck] 28)
 clear h
 go_enter Try.func62, Try.ntmps62
 go_wp2_with fail
 go_ret
 exact ⟨rfl, hB⟩
theorem members_any (c : CfL) (w : World) (h : c.ok) : Calls Try.prog 83 #[cfV c] w fun e w' => e = .returned (.int .u16 ((memF c : Nat) : Int)) ∧ Below w.heap.size w w' := by
 have HA := bits_or_u16_nat c.v c.w h.1 h.2.1
 have HA2 := bits_or_u16_nat (c.v ||| c.w) c.l (vot_lt h) h.2.2.1
 unfold cfV
 obtain ⟨cv, cw, cl, ce, ck⟩ := c
 dsimp only [votF, datF, memF] at *
 have hB := (Below.refl w.heap.size w).alloc (Nat.le_refl _) (.cells #[.int .u16 (cv : Int), .int .u16 (cw : Int), .int .u16 (cl : Int), .int .i64 ce, .int .i64 ck] 28)
 clear h
 go_enter Try.func83, Try.ntmps83
 go_wp2_with fail
 go_ret
 exact ⟨rfl, hB⟩
theorem count_any (s : Nat) (w : World) (hs : s < 65536) : Calls Try.prog 61 #[.int .u16 (s : Int)] w fun e w' => e = .returned (.int .i64 ((cntF s : Nat) : Int)) ∧ Below w.heap.size w w' := by
 rw [← cntF_list]
 exact seti.count_any s w hs
end Go.Proofs.Ytegnfkbmlalkeaa.confi
namespace Go.Proofs.Ytegnfkbmlalkeaa.enti
open Go Go.RowKit Go.Proofs.Ytegnfkbmlalkeaa.kit Go.Proofs.Ytegnfkbmlalkeaa.nums Go.Proofs.Ytegnfkbmlalkeaa.cf Go.Proofs.Ytegnfkbmlalkeaa.lg
set_option linter.unusedVariables false
theorem wrap_sm {z : Int} (h1 : -9000000000000000000 ≤ z) (h2 : z ≤ 9000000000000000000) : IntKind.i64.wrap z = z := by rw [IntKind.wrap_i64]; omega
theorem last_any (L : LgL) (A : Option Addr) (n c : Nat) (w : World) (hn : L.es.length = n) (hf : Fit L) : Calls Try.prog 44 #[lgV L (.slice A n c)] w fun e w' => e = .returned (.int .i64 (lastF L)) ∧ Below w.heap.size w w' := by
 obtain ⟨h0, h1, h2⟩ := hf
 have u1 : IntKind.i64.wrap (L.b + (n : Int)) = L.b + (n : Int) := enti.wrap_sm (by omega) (by omega)
 have hl : lastF L = L.b + (n : Int) := by unfold lastF; rw [hn]
 rw [hl]
 unfold lgV
 obtain ⟨b, t, j, es⟩ := L
 dsimp only at *
 clear hl hn
 have k0 : Blk 36 (w.alloc (.cells #[.int .i64 b, .int .i64 t, j0 j, j1 j, j2 j, j3 j, j4 j, j5 j, j6 j, j7 j, j8 j, j9 j, j10 j, .slice A n c] 36)) w.heap.size [.int .i64 b, .int .i64 t, j0 j, j1 j, j2 j, j3 j, j4 j, j5 j, j6 j, j7 j, j8 j, j9 j, j10 j, .slice A n c] := (heap_alloc_new w (.cells #[.int .i64 b, .int .i64 t, j0 j, j1 j, j2 j, j3 j, j4 j, j5 j, j6 j, j7 j, j8 j, j9 j, j10 j, .slice A n c] 36))
 have hB : Below w.heap.size w (w.alloc (.cells #[.int .i64 b, .int .i64 t, j0 j, j1 j, j2 j, j3 j, j4 j, j5 j, j6 j, j7 j, j8 j, j9 j, j10 j, .slice A n c] 36)) := ((Below.refl w.heap.size w).alloc (by first | exact Nat.le_refl _ | simp) (.cells #[.int .i64 b, .int .i64 t, j0 j, j1 j, j2 j, j3 j, j4 j, j5 j, j6 j, j7 j, j8 j, j9 j, j10 j, .slice A n c] 36))
 have HB := Lib.hid hB
 clear hB
 go_enter Try.func44, Try.ntmps44
 go_wp2_with fail
 go_ret
 exact ⟨rfl, HB.out⟩
theorem behind_any (L : LgL) (A : Option Addr) (n c k : Nat) (i : Int) (w : World) (B : Nat) (hR : RdE w B A n L.es) (hB : B ≤ w.heap.size) (hc : n ≤ c) (hf : Fit L) (hi : i = L.b + k) (hk : k ≤ n) : Calls Try.prog 74 #[lgV L (.slice A n c), .int .i64 i] w fun e w' => ∃ A' c', e = .returned (.slice A' (n - k) c') ∧ RdE w' B A' (n - k) (L.es.drop k) ∧ (n - k) ≤ c' ∧ c' ≤ c ∧ Below w.heap.size w w' := by
 obtain ⟨h0, h1, h2⟩ := hf
 have hl := hR.1
 have u1 : IntKind.i64.wrap (i - L.b) = (k : Int) := by rw [enti.wrap_sm (by omega) (by omega)]; omega
 have HR := Lib.hid hR
 have hBs := hB
 clear hi hR hB
 unfold lgV
 obtain ⟨b, t, j, es⟩ := L
 dsimp only at *
 clear h0 h1 h2 hl
 have k0 : Blk 36 (w.alloc (.cells #[.int .i64 b, .int .i64 t, j0 j, j1 j, j2 j, j3 j, j4 j, j5 j, j6 j, j7 j, j8 j, j9 j, j10 j, .slice A n c] 36)) w.heap.size [.int .i64 b, .int .i64 t, j0 j, j1 j, j2 j, j3 j, j4 j, j5 j, j6 j, j7 j, j8 j, j9 j, j10 j, .slice A n c] := (heap_alloc_new w (.cells #[.int .i64 b, .int .i64 t, j0 j, j1 j, j2 j, j3 j, j4 j, j5 j, j6 j, j7 j, j8 j, j9 j, j10 j, .slice A n c] 36))
 have hB : Below w.heap.size w (w.alloc (.cells #[.int .i64 b, .int .i64 t, j0 j, j1 j, j2 j, j3 j, j4 j, j5 j, j6 j, j7 j, j8 j, j9 j, j10 j, .slice A n c] 36)) := ((Below.refl w.heap.size w).alloc (by first | exact Nat.le_refl _ | simp) (.cells #[.int .i64 b, .int .i64 t, j0 j, j1 j, j2 j, j3 j, j4 j, j5 j, j6 j, j7 j, j8 j, j9 j, j10 j, .slice A n c] 36))
 have HB := Lib.hid hB
 clear hB
 go_enter Try.func74, Try.ntmps74
 go_wp2_with (with_reducible refine wpList_slice_lE rfl _ _ rfl A n c B es rfl (HR.out.on (HB.out.mono hBs) (Nat.le_refl _)) .i64 _ k rfl rfl hk hc ?_)
 intro A' c' hR2 hc1 hc2
 have HR2 := Lib.hid hR2
 clear hR2
 go_wp2_with fail
 go_ret
 exact ⟨A', c', rfl, HR2.out, by omega, by omega, HB.out⟩
end Go.Proofs.Ytegnfkbmlalkeaa.enti
namespace Go.Proofs.Ytegnfkbmlalkeaa.confi
open Go Go.RowKit Go.Proofs.Ytegnfkbmlalkeaa.kit Go.Proofs.Ytegnfkbmlalkeaa.nums Go.Proofs.Ytegnfkbmlalkeaa.se Go.Proofs.Ytegnfkbmlalkeaa.cf
set_option linter.unusedVariables false
theorem final_any (j : JtL) (w : World) : Calls Try.prog 80 #[jtV j] w fun e w' => e = .returned (jtV (finalJ j)) ∧ Below w.heap.size w w' := by
 unfold jtV finalJ
 obtain ⟨⟨av, aw, al, ae, ak⟩, ⟨bv, bw, bl, be, bk⟩, t⟩ := j
 dsimp only at *
 have k0 : Blk 30 ((w.alloc (.cells #[.int .u16 (av : Int), .int .u16 (aw : Int), .int .u16 (al : Int), .int .i64 ae, .int .i64 ak, .int .u16 (bv : Int), .int .u16 (bw : Int), .int .u16 (bl : Int), .int .i64 be, .int .i64 bk, .bool t] 30)).alloc (.cells #[.int .u16 0, .int .u16 0, .int .u16 0, .int .i64 0, .int .i64 0, .int .u16 0, .int .u16 0, .int .u16 0, .int .i64 0, .int .i64 0, .bool false] 30)) w.heap.size [.int .u16 (av : Int), .int .u16 (aw : Int), .int .u16 (al : Int), .int .i64 ae, .int .i64 ak, .int .u16 (bv : Int), .int .u16 (bw : Int), .int .u16 (bl : Int), .int .i64 be, .int .i64 bk, .bool t] := Blk.alloc (heap_alloc_new w _) _
 have k1 : Blk 30 ((w.alloc (.cells #[.int .u16 (av : Int), .int .u16 (aw : Int), .int .u16 (al : Int), .int .i64 ae, .int .i64 ak, .int .u16 (bv : Int), .int .u16 (bw : Int), .int .u16 (bl : Int), .int .i64 be, .int .i64 bk, .bool t] 30)).alloc (.cells #[.int .u16 0, .int .u16 0, .int .u16 0, .int .i64 0, .int .i64 0, .int .u16 0, .int .u16 0, .int .u16 0, .int .i64 0, .int .i64 0, .bool false] 30)) (w.heap.size + 1) [.int .u16 0, .int .u16 0, .int .u16 0, .int .i64 0, .int .i64 0, .int .u16 0, .int .u16 0, .int .u16 0, .int .i64 0, .int .i64 0, .bool false] := by have := heap_alloc_new (w.alloc (.cells #[.int .u16 (av : Int), .int .u16 (aw : Int), .int .u16 (al : Int), .int .i64 ae, .int .i64 ak, .int .u16 (bv : Int), .int .u16 (bw : Int), .int .u16 (bl : Int), .int .i64 be, .int .i64 bk, .bool t] 30)) (.cells #[.int .u16 0, .int .u16 0, .int .u16 0, .int .i64 0, .int .i64 0, .int .u16 0, .int .u16 0, .int .u16 0, .int .i64 0, .int .i64 0, .bool false] 30); rwa [show (w.alloc (.cells #[.int .u16 (av : Int), .int .u16 (aw : Int), .int .u16 (al : Int), .int .i64 ae, .int .i64 ak, .int .u16 (bv : Int), .int .u16 (bw : Int), .int .u16 (bl : Int), .int .i64 be, .int .i64 bk, .bool t] 30)).heap.size = w.heap.size + 1 by simp] at this
 have hB := ((Below.refl w.heap.size w).alloc (Nat.le_refl _) (.cells #[.int .u16 (av : Int), .int .u16 (aw : Int), .int .u16 (al : Int), .int .i64 ae, .int .i64 ak, .int .u16 (bv : Int), .int .u16 (bw : Int), .int .u16 (bl : Int), .int .i64 be, .int .i64 bk, .bool t] 30)).alloc (by simp) (.cells #[.int .u16 0, .int .u16 0, .int .u16 0, .int .i64 0, .int .i64 0, .int .u16 0, .int .u16 0, .int .u16 0, .int .i64 0, .int .i64 0, .bool false] 30)
 have c0 := blk11 k0
 have c1 := blk11 k1
 have df := fun i => k1.frozen i
 clear k0
 have hB2 := Lib.hid hB
 have K1 := Lib.hid k1
 clear k1 hB
 cases t
 · go_enter Try.func80, Try.ntmps80
   go_upto_region 1 with (fail)
   generalize ((w.alloc (.cells #[.int .u16 (av : Int), .int .u16 (aw : Int), .int .u16 (al : Int), .int .i64 ae, .int .i64 ak, .int .u16 (bv : Int), .int .u16 (bw : Int), .int .u16 (bl : Int), .int .i64 be, .int .i64 bk, .bool false] 30)).alloc (.cells #[.int .u16 0, .int .u16 0, .int .u16 0, .int .i64 0, .int .i64 0, .int .u16 0, .int .u16 0, .int .u16 0, .int .i64 0, .int .i64 0, .bool false] 30)) = w1 at *
   go_wp2_with fail
   have sF := put11 (.int .u16 (av : Int)) (.int .u16 (aw : Int)) (.int .u16 (al : Int)) (.int .i64 ae) (.int .i64 ak) (.int .u16 (bv : Int)) (.int .u16 (bw : Int)) (.int .u16 (bl : Int)) (.int .i64 be) (.int .i64 bk) (.bool false) K1.out
   have bF := below11 (g := w.heap.size + 1) (.int .u16 (av : Int)) (.int .u16 (aw : Int)) (.int .u16 (al : Int)) (.int .i64 ae) (.int .i64 ak) (.int .u16 (bv : Int)) (.int .u16 (bw : Int)) (.int .u16 (bl : Int)) (.int .i64 be) (.int .i64 bk) (.bool false) hB2.out (by first | omega | simp)
   generalize (((((((((((w1.setCell ⟨w.heap.size + 1, 0, none⟩ (.int .u16 (av : Int))).setCell ⟨w.heap.size + 1, 1, none⟩ (.int .u16 (aw : Int))).setCell ⟨w.heap.size + 1, 2, none⟩ (.int .u16 (al : Int))).setCell ⟨w.heap.size + 1, 3, none⟩ (.int .i64 ae)).setCell ⟨w.heap.size + 1, 4, none⟩ (.int .i64 ak)).setCell ⟨w.heap.size + 1, 5, none⟩ (.int .u16 (bv : Int))).setCell ⟨w.heap.size + 1, 6, none⟩ (.int .u16 (bw : Int))).setCell ⟨w.heap.size + 1, 7, none⟩ (.int .u16 (bl : Int))).setCell ⟨w.heap.size + 1, 8, none⟩ (.int .i64 be)).setCell ⟨w.heap.size + 1, 9, none⟩ (.int .i64 bk)).setCell ⟨w.heap.size + 1, 10, none⟩ (.bool false)) = wf at *
   obtain ⟨e0, e1, e2, e3, e4, e5, e6, e7, e8, e9, e10⟩ := blk11 sF
   (try simp only [Exit.inBlock, Exit.then])
   refine bodyPost_ret (by simp [results, Try.results80, go_sem, e0, e1, e2, e3, e4, e5, e6, e7, e8, e9, e10]; try rfl) rfl ?_
   exact ⟨by rfl, bF⟩
 · go_enter Try.func80, Try.ntmps80
   go_upto_region 1 with (fail)
   generalize ((w.alloc (.cells #[.int .u16 (av : Int), .int .u16 (aw : Int), .int .u16 (al : Int), .int .i64 ae, .int .i64 ak, .int .u16 (bv : Int), .int .u16 (bw : Int), .int .u16 (bl : Int), .int .i64 be, .int .i64 bk, .bool true] 30)).alloc (.cells #[.int .u16 0, .int .u16 0, .int .u16 0, .int .i64 0, .int .i64 0, .int .u16 0, .int .u16 0, .int .u16 0, .int .i64 0, .int .i64 0, .bool false] 30)) = w1 at *
   go_wp2_with fail
   have sF := put11 (.int .u16 (bv : Int)) (.int .u16 (bw : Int)) (.int .u16 (bl : Int)) (.int .i64 be) (.int .i64 bk) (.int .u16 0) (.int .u16 0) (.int .u16 0) (.int .i64 0) (.int .i64 0) (.bool false) K1.out
   have bF := below11 (g := w.heap.size + 1) (.int .u16 (bv : Int)) (.int .u16 (bw : Int)) (.int .u16 (bl : Int)) (.int .i64 be) (.int .i64 bk) (.int .u16 0) (.int .u16 0) (.int .u16 0) (.int .i64 0) (.int .i64 0) (.bool false) hB2.out (by first | omega | simp)
   generalize (((((((((((w1.setCell ⟨w.heap.size + 1, 0, none⟩ (.int .u16 (bv : Int))).setCell ⟨w.heap.size + 1, 1, none⟩ (.int .u16 (bw : Int))).setCell ⟨w.heap.size + 1, 2, none⟩ (.int .u16 (bl : Int))).setCell ⟨w.heap.size + 1, 3, none⟩ (.int .i64 be)).setCell ⟨w.heap.size + 1, 4, none⟩ (.int .i64 bk)).setCell ⟨w.heap.size + 1, 5, none⟩ (.int .u16 0)).setCell ⟨w.heap.size + 1, 6, none⟩ (.int .u16 0)).setCell ⟨w.heap.size + 1, 7, none⟩ (.int .u16 0)).setCell ⟨w.heap.size + 1, 8, none⟩ (.int .i64 0)).setCell ⟨w.heap.size + 1, 9, none⟩ (.int .i64 0)).setCell ⟨w.heap.size + 1, 10, none⟩ (.bool false)) = wf at *
   obtain ⟨e0, e1, e2, e3, e4, e5, e6, e7, e8, e9, e10⟩ := blk11 sF
   (try simp only [Exit.inBlock, Exit.then])
   refine bodyPost_ret (by simp [results, Try.results80, go_sem, e0, e1, e2, e3, e4, e5, e6, e7, e8, e9, e10]; try rfl) rfl ?_
   exact ⟨by rfl, bF⟩
end Go.Proofs.Ytegnfkbmlalkeaa.confi
namespace Go.Proofs.Ytegnfkbmlalkeaa.cr
open Go.Proofs.Ytegnfkbmlalkeaa.nums Go.Proofs.Ytegnfkbmlalkeaa.se Go.Proofs.Ytegnfkbmlalkeaa.cf Go.Proofs.Ytegnfkbmlalkeaa.lg
set_option linter.unusedVariables false
def threeC : CfL := ⟨14, 0, 0, 2, 2⟩
def threeJ : JtL := ⟨threeC, zeroC, false⟩
def bT : Nat → CoL
 | 0 => newC 1 threeJ
 | k + 1 => (tickF (bT k)).1
def bO : Nat → Nat
 | 0 => 0
 | k + 1 => (tickF (bT k)).2.length
def votM : MsL := { zM with k := 2, f := 2, t := 1, m := 1, y := true }
theorem three_may : mayJ threeJ = true := by decide
theorem bT_fr : ∀ k, Fr (bT k) 1 threeJ k
 | 0 => Fr.new (by omega)
 | k + 1 => (bT_fr k).tick (by omega) rfl
theorem bT_good {k : Nat} (hk : k ≤ 16) : GoodK (bT k) := (bT_fr k).good (by omega) (by omega) three_may
theorem bO_le : ∀ k, k ≤ 16 → bO k ≤ 2 := by decide
theorem bT_end : (bT 16).ro = 1 ∧ bO 16 = 2 ∧ (stepF (bT 16) votM).1.ro = 2 ∧ (stepF (bT 16) votM).2.length = 2 := by decide
theorem bT_deaf : deafB (bT 16) votM = false ∧ votM.m = (bT 16).tm := by decide
end Go.Proofs.Ytegnfkbmlalkeaa.cr
