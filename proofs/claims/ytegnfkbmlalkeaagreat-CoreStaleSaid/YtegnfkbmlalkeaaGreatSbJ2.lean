/- How slices of texts that come in read, in the words of the kit (stage 13). No condition. -/
import Derived.Laws.Tables
import Derived.Laws.MakeOwn
import Derived.Laws.AppendOwn
import Derived.Deep.RegionHeld3
import Derived.Deep.Cut
import Derived.Lib.Hide
import Derived.Laws.StructEq
import Derived.BigQuiet
import Derived.Test.YtegnfkbmlalkeaaGreatSbKitLg
import Derived.Test.YtegnfkbmlalkeaaGreatSbJ0
import Derived.Test.YtegnfkbmlalkeaaGreatSbCo
import Derived.Test.YtegnfkbmlalkeaaGreatSbRef9
import Derived.Test.YtegnfkbmlalkeaaGreatSbJ1
namespace Go.Proofs.YtegnfkbmlalkeaaGreat.kit
open Go Go.RowKit Go.Proofs.YtegnfkbmlalkeaaGreat.nums
set_option linter.unusedVariables false
structure Put (w w' : World) (g : Nat) : Prop where
 other : ∀ q, q ≠ g → w'.heap[q]? = w.heap[q]?
 below : ∀ B w0, Below B w0 w → B ≤ g → Below B w0 w'
 size : w'.heap.size = w.heap.size
theorem Blk.put {w w' : World} {g q : Nat} {E : TypeId} {cs : List Value} (h : Blk E w q cs) (hp : Put w w' g) (hq : q ≠ g) : Blk E w' q cs := (hp.other q hq).trans h
theorem put_setRow {w : World} {g : Nat} {old : List Value} {E : TypeId} (hK : Blk E w g old) (cells : Array Value) : Blk E (w.setRow g cells) g cells.toList ∧ Put w (w.setRow g cells) g := by
 refine ⟨?_, ⟨fun q hq => setRow_other w g q cells hq, fun B w0 hb hB => below_setRow hb hB cells, by simp [World.setRow]⟩⟩
 have := setRow_heap w g old.toArray cells E (0, 0) hK
 unfold Blk
 rw [this]
section
variable {P : Program} {w : World} {ops : Array Oper} {rest : List Oper} {o : Oper} {a : Act} {Q : Exit → Act → World → Prop}
theorem wpList_st (hgd : o.guard = none) (T : TypeId) (p v : Operand) (ho : o.op = .store T p v) (g : Nat) (cells : Array Value) (old : List Value) (E : TypeId) (hp : a.eval p = .pointer (some ⟨g, 0, none⟩)) (hv : a.eval v = .agg cells) (hK : Blk E w g old)
   (hi : (P.info? T).map (·.size) = some cells.size) (hl : old.length = cells.size) (h1 : cells.toList.all (·.oneCell') = true)
   (h : ∀ w', Blk E w' g cells.toList → Put w w' g → wpList P ops Q rest (a.put o.dst undef) w') : wpList P ops Q (o :: rest) a w := by
 refine wpList_plain hgd fun K hK' => ?_
 have hrun := run_storeVar_row (P := P) w g E T old.toArray cells hK hi (by simpa using hl) (Array.all_eq_true_iff_forall_mem.2 (fun u hu => List.all_eq_true.1 h1 u (by simpa using hu)))
 obtain ⟨k1, k2⟩ := put_setRow hK cells
 unfold Oper.wp execOp
 simp only [ho, hp, hv, Instr.storeAt, Instr.sureAddr, Sem.run_bind, Sem.run_pure, Result.andThen_ok, hrun]
 exact hK' _ _ (h _ k1 k2)
theorem wpList_al (hgd : o.guard = none) (T : TypeId) (ho : o.op = .alloc T) (z : Value) (hz : (P.info? T).map (·.zero) = some (some z)) (cells : List Value) (hc : z.cells.toList = cells)
   (h : ∀ w', Blk T w' w.heap.size cells → Below w.heap.size w w' → Hid (w'.heap.size = w.heap.size + 1) → wpList P ops Q rest (a.put o.dst (.pointer (some ⟨w.heap.size, 0, none⟩))) w') : wpList P ops Q (o :: rest) a w := by
 subst hc
 refine wpList_plain hgd fun K hK' => ?_
 cases hq : P.info? T with
 | none => simp [hq] at hz
 | some i =>
   have hz' : i.zero = some z := by simpa [hq] using hz
   unfold Oper.wp execOp
   simp [ho, Instr.alloc, zeroValue, typeInfo, hq, hz', newVar, newRow, Sem.run_bind, Sem.run_pure]
   refine hK' _ _ (h _ (heap_alloc_new w _) ((Below.refl _ _).alloc (Nat.le_refl _) _) (by show (w.heap.push _).size = _; simp))
theorem wpList_ldw (hw : Region.wanted o (yielded ops a.tmps) = true) (T : TypeId) (p : Operand) (ho : o.op = .load T p) (g : Nat) (cells : List Value) (E : TypeId) (hp : a.eval p = .pointer (some ⟨g, 0, none⟩)) (hK : Blk E w g cells)
   (ha : (isAgg T).run P w = .ok true w) (hs : (sizeOf T).run P w = .ok cells.length w) (h : wpList P ops Q rest (a.put o.dst (.agg cells.toArray)) w) : wpList P ops Q (o :: rest) a w := by
 have hl := run_loadCells_list (P := P) w ⟨g, 0, none⟩ cells (fun j v hv => by rw [Addr.add_lit, Nat.zero_add, hK.cell]; exact hv)
 simp only [wpList, hw, if_true]
 left
 unfold Oper.wp execOp
 simp only [ho, hp, Instr.loadAt, Instr.sureAddr, loadVar, Sem.run_bind, Sem.run_pure, Result.andThen_ok, ha, hs, hl, if_true]
 exact h
theorem run_ldv {T : TypeId} {p : Operand} {g : Nat} {cells : List Value} {E : TypeId} (ho : o.op = .load T p) (hp : a.eval p = .pointer (some ⟨g, 0, none⟩)) (hK : Blk E w g cells)
   (ha : (isAgg T).run P w = .ok true w) (hs : (sizeOf T).run P w = .ok cells.length w) : (execOp a.eval o).run P w = .ok (.value (.agg cells.toArray)) w := by
 have hl := run_loadCells_list (P := P) w ⟨g, 0, none⟩ cells (fun j v hv => by rw [Addr.add_lit, Nat.zero_add, hK.cell]; exact hv)
 unfold execOp
 simp only [ho, hp, Instr.loadAt, Instr.sureAddr, loadVar, Sem.run_bind, Sem.run_pure, Result.andThen_ok, ha, hs, hl, if_true]
end
theorem sizeLv : (Tryz.prog.info? 30).map (·.size) = some 14 := by kernel_rfl
end Go.Proofs.YtegnfkbmlalkeaaGreat.kit
namespace Go.Proofs.YtegnfkbmlalkeaaGreat.kit
open Go Go.RowKit Go.Proofs.YtegnfkbmlalkeaaGreat.nums Go.Proofs.YtegnfkbmlalkeaaGreat.cf Go.Proofs.YtegnfkbmlalkeaaGreat.lg
set_option linter.unusedVariables false
theorem wrap_sm {x : Int} (h1 : -9223372036854775808 ≤ x) (h2 : x ≤ 9223372036854775807) : IntKind.i64.wrap x = x := by
 rw [IntKind.wrap_i64]; omega
theorem sizeEv : (Tryz.prog.info? 52).map (·.size) = some 14 := by kernel_rfl
theorem lg_one (L : LgL) {A : Option Addr} {n c : Nat} : (lgC L (.slice A n c)).all (·.oneCell') = true := rfl
theorem en_all (x : EnL) : (enC x).all (·.oneCell') = true := rfl
section
variable {P : Program} {w : World} {ops : Array Oper} {rest : List Oper} {o : Oper} {a : Act} {Q : Exit → Act → World → Prop}
theorem wpList_box (hgd : o.guard = none) (T : TypeId) (x : Operand) (ho : o.op = .box T x) (cells : Array Value) (hx : a.eval x = .agg cells)
   (h : ∀ w', Blk T w' w.heap.size cells.toList → Below w.heap.size w w' → Hid (w'.heap.size = w.heap.size + 1) → wpList P ops Q rest (a.put o.dst (.pointer (some ⟨w.heap.size, 0, none⟩))) w') : wpList P ops Q (o :: rest) a w := by
 refine wpList_plain hgd fun K hK' => ?_
 unfold Oper.wp execOp
 simp [ho, hx, Instr.box, newVar, newRow, Value.cells]
 refine hK' _ _ (h _ (heap_alloc_new w _) ((Below.refl _ _).alloc (Nat.le_refl _) _) (by show (w.heap.push _).size = _; simp))
end
section
variable {w : World} {ops : Array Oper} {rest : List Oper} {o : Oper} {a : Act} {Q : Exit → Act → World → Prop} {g : Nat} {E : TypeId} {L M : LgL} {s : Value} {x y : EnL}
theorem box_L (hgd : o.guard = none) (p : Operand) (ho : o.op = .box 30 p) (L : LgL) (s : Value) (hx : a.eval p = lgV L s)
   (h : ∀ w', Blk 30 w' w.heap.size (lgC L s) → Below w.heap.size w w' → Hid (w'.heap.size = w.heap.size + 1) → wpList Tryz.prog ops Q rest (a.put o.dst (.pointer (some ⟨w.heap.size, 0, none⟩))) w') : wpList Tryz.prog ops Q (o :: rest) a w :=
 wpList_box hgd _ p ho _ hx h
theorem box_E (hgd : o.guard = none) (p : Operand) (ho : o.op = .box 52 p) (x : EnL) (hx : a.eval p = enV x)
   (h : ∀ w', Blk 52 w' w.heap.size (enC x) → Below w.heap.size w w' → Hid (w'.heap.size = w.heap.size + 1) → wpList Tryz.prog ops Q rest (a.put o.dst (.pointer (some ⟨w.heap.size, 0, none⟩))) w') : wpList Tryz.prog ops Q (o :: rest) a w :=
 wpList_box hgd _ p ho _ hx h
theorem ld_L (hw : Region.wanted o (yielded ops a.tmps) = true) (p : Operand) (ho : o.op = .load 30 p) (hp : a.eval p = .pointer (some ⟨g, 0, none⟩)) (hK : Blk E w g (lgC L s))
   (h : wpList Tryz.prog ops Q rest (a.put o.dst (lgV L s)) w) : wpList Tryz.prog ops Q (o :: rest) a w :=
 wpList_ldw hw _ p ho g (lgC L s) E hp hK (aggL _) (sizeL _) h
theorem ld_E (hw : Region.wanted o (yielded ops a.tmps) = true) (p : Operand) (ho : o.op = .load 52 p) (hp : a.eval p = .pointer (some ⟨g, 0, none⟩)) (hK : Blk E w g (enC x))
   (h : wpList Tryz.prog ops Q rest (a.put o.dst (enV x)) w) : wpList Tryz.prog ops Q (o :: rest) a w :=
 wpList_ldw hw _ p ho g (enC x) E hp hK (aggE _) (sizeE _) h
theorem st_E (hgd : o.guard = none) (p v : Operand) (ho : o.op = .store 52 p v) (x : EnL) (hp : a.eval p = .pointer (some ⟨g, 0, none⟩)) (hv : a.eval v = enV x) (old : List Value) (hK : Blk E w g old) (hl : old.length = 14)
   (h : ∀ w', Blk E w' g (enC x) → Put w w' g → wpList Tryz.prog ops Q rest (a.put o.dst undef) w') : wpList Tryz.prog ops Q (o :: rest) a w :=
 wpList_st hgd _ p v ho g _ old E hp hv hK sizeEv hl (en_all x) h
def zEc : List Value := [.int .i64 0, .int .i64 0, .string ⟨#[]⟩, .int .u16 0, .int .u16 0, .int .u16 0, .int .i64 0, .int .i64 0, .int .u16 0, .int .u16 0, .int .u16 0, .int .i64 0, .int .i64 0, .bool false]
theorem zeroEv : (Tryz.prog.info? 52).map (·.zero) = some (some (.agg zEc.toArray)) := by kernel_rfl
theorem al_E (hgd : o.guard = none) (ho : o.op = .alloc 52)
   (h : ∀ w', Blk 52 w' w.heap.size zEc → Below w.heap.size w w' → Hid (w'.heap.size = w.heap.size + 1) → wpList Tryz.prog ops Q rest (a.put o.dst (.pointer (some ⟨w.heap.size, 0, none⟩))) w') : wpList Tryz.prog ops Q (o :: rest) a w :=
 wpList_al hgd _ ho _ zeroEv zEc rfl h
theorem rld_L {p : Operand} (ho : o.op = .load 30 p) (hp : a.eval p = .pointer (some ⟨g, 0, none⟩)) (hK : Blk E w g (lgC L s)) : (execOp a.eval o).run Tryz.prog w = .ok (.value (lgV L s)) w := run_ldv ho hp hK (aggL _) (sizeL _)
end
theorem RdE.put {w w' : World} {g B n : Nat} {A : Option Addr} {es : List EnL} (h : RdE w B A n es) (hp : Put w w' g) (hg : B ≤ g) : RdE w' B A n es := h.below (hp.below _ _ (Below.refl _ _) hg)
theorem OwnE.put {w w' : World} {g base : Nat} {v : Value} {es : List EnL} (h : OwnE w base v es) (hp : Put w w' g) (hg : g < base) : OwnE w' base v es := h.keep fun q hq => hp.other q (by omega)
def RdN (w : World) (g : Nat) (A : Option Addr) (n : Nat) (es : List EnL) : Prop := RdE w w.heap.size A n es ∧ ∀ b o, 0 < n → A = some ⟨b, o, none⟩ → b ≠ g
theorem RdN.below {w w' : World} {g n : Nat} {A : Option Addr} {es : List EnL} (h : RdN w g A n es) (hb : Below w.heap.size w w') : RdN w' g A n es := ⟨h.1.on hb hb.size, h.2⟩
theorem RdN.put {w w' : World} {g n : Nat} {A : Option Addr} {es : List EnL} (h : RdN w g A n es) (hp : Put w w' g) : RdN w' g A n es := ⟨⟨h.1.1, fun hn => by
 obtain ⟨b, o, e, hlt, hc⟩ := h.1.2 hn
 refine ⟨b, o, e, by rw [hp.size]; exact hlt, fun j x hx q u hu => ?_⟩
 have hk := hp.other b (h.2 b o hn e)
 have := hc j x hx q u hu
 simpa [World.cell?, hk] using this⟩, h.2⟩
theorem RdN.of_rd {w : World} {g B n : Nat} {A : Option Addr} {es : List EnL} (h : RdE w B A n es) (hb : B ≤ g) (hB : B ≤ w.heap.size) : RdN w g A n es := ⟨h.more hB, fun b o hn e => by
 obtain ⟨b', o', e', hlt, _⟩ := h.2 hn
 rw [e] at e'
 have := Option.some.inj e'
 simp only [Addr.mk.injEq] at this
 omega⟩
theorem RdN.of_own {w : World} {g base n c : Nat} {A : Option Addr} {es : List EnL} (h : OwnE w base (.slice A n c) es) (hg : g < base) : RdN w g A n es := ⟨h.cap.2.2.2, fun b o hn e => by
 rcases h.2 with ⟨hv, hn0⟩ | ⟨g', cap, cur, hv, hb, _⟩
 · simp only [Value.slice.injEq] at hv
   rw [hv.1] at e; cases e
 · simp only [Value.slice.injEq] at hv
   rw [hv.1] at e
   have := Option.some.inj e
   simp only [Addr.mk.injEq] at this
   omega⟩
end Go.Proofs.YtegnfkbmlalkeaaGreat.kit
namespace Go.Proofs.YtegnfkbmlalkeaaGreat.kit
open Go Go.RowKit Go.Proofs.YtegnfkbmlalkeaaGreat.nums Go.Proofs.YtegnfkbmlalkeaaGreat.cf Go.Proofs.YtegnfkbmlalkeaaGreat.lg
set_option linter.unusedVariables false
theorem put_set (w : World) (g i : Nat) (u : Value) : Put w (w.setCell ⟨g, i, none⟩ u) g :=
 ⟨fun q hq => Below.heap_setCell w ⟨g, i, none⟩ u q hq, fun B w0 hb hB => hb.setCell (p := ⟨g, i, none⟩) hB u, by simp [World.setCell]⟩
def jC (j : JtL) : List Value := [j0 j, j1 j, j2 j, j3 j, j4 j, j5 j, j6 j, j7 j, j8 j, j9 j, j10 j]
section
variable {w : World} {ops : Array Oper} {rest : List Oper} {o : Oper} {a : Act} {Q : Exit → Act → World → Prop} {g : Nat} {E : TypeId} {L M : LgL} {s : Value} {x y : EnL}
theorem lo_L (p : Operand) (ho : o.op = .load 30 p) (hw : Region.wanted o (yielded ops a.tmps) = true) (hp : a.eval p = .pointer (some ⟨g, 0, none⟩)) (hK : Blk E w g (lgC L s))
   (h : wpList Tryz.prog ops Q rest (a.put o.dst (lgV L s)) w) : wpList Tryz.prog ops Q (o :: rest) a w := ld_L hw p ho hp hK h
theorem lo_E (p : Operand) (ho : o.op = .load 52 p) (hw : Region.wanted o (yielded ops a.tmps) = true) (hp : a.eval p = .pointer (some ⟨g, 0, none⟩)) (hK : Blk E w g (enC x))
   (h : wpList Tryz.prog ops Q rest (a.put o.dst (enV x)) w) : wpList Tryz.prog ops Q (o :: rest) a w := ld_E hw p ho hp hK h
theorem at_jL (h : Blk E w g (lgC L s)) : At w g 2 (jC L.j) := fun i u hu => by
 rw [h.cell (2 + i)]
 have hi : i < 11 := (List.getElem?_eq_some_iff.1 hu).1
 rw [← hu]
 show (lgC L s)[2 + i]? = (jC L.j)[i]?
 rw [show lgC L s = [.int .i64 L.b, .int .i64 L.t] ++ (jC L.j ++ [s]) from rfl, List.getElem?_append_right (by show 2 ≤ _; omega), List.getElem?_append_left (by show _ < 11; simp; omega)]
 congr 1
 show 2 + i - 2 = i
 omega
theorem sizeJv : (Tryz.prog.info? 27).map (·.size) = some 11 := by kernel_rfl
end
end Go.Proofs.YtegnfkbmlalkeaaGreat.kit
namespace Go.Proofs.YtegnfkbmlalkeaaGreat.kit
open Go Go.RowKit Go.Proofs.YtegnfkbmlalkeaaGreat.kit Go.Proofs.YtegnfkbmlalkeaaGreat.nums Go.Proofs.YtegnfkbmlalkeaaGreat.cf Go.Proofs.YtegnfkbmlalkeaaGreat.lg
set_option linter.unusedVariables false
theorem Put.refl (w : World) (g : Nat) : Put w w g := ⟨fun _ _ => rfl, fun _ _ h _ => h, rfl⟩
theorem OwnE.blk_lt {w : World} {base n c : Nat} {A : Option Addr} {es : List EnL} (h : OwnE w base (.slice A n c) es) : ∀ b o, A = some ⟨b, o, none⟩ → base ≤ b ∧ b < w.heap.size := fun b o e => by
 rcases h.2 with ⟨hv, hn⟩ | ⟨g, cap, cur, hv, hbg, hg, r⟩
 · simp only [Value.slice.injEq] at hv
   rw [hv.1] at e; cases e
 · simp only [Value.slice.injEq] at hv
   rw [hv.1] at e
   have := Option.some.inj e
   simp only [Addr.mk.injEq] at this
   have h2 := lt_of_block hg
   omega
end Go.Proofs.YtegnfkbmlalkeaaGreat.kit
namespace Go.Proofs.YtegnfkbmlalkeaaGreat.law12
open Go Go.RowKit Go.Proofs.YtegnfkbmlalkeaaGreat.kit Go.Proofs.YtegnfkbmlalkeaaGreat.nums Go.Proofs.YtegnfkbmlalkeaaGreat.cf Go.Proofs.YtegnfkbmlalkeaaGreat.lg
set_option linter.unusedVariables false
set_option maxHeartbeats 1000000 in
theorem small_any (A : Option Addr) (n c : Nat) (es : List EnL) (w : World) (B : Nat) (hR : RdE w B A n es) (hn : n ≤ 1000000) : Calls Tryz.prog 102 #[.slice A n c] w fun e w' => ∃ bl, e = .returned (.bool bl) ∧ w = w' := by
 have HR := Lib.hid hR
 clear hR
 go_enter Tryz.func102, Tryz.ntmps102
 go_wp2_with fail
 go_loopw [3] (fun iv wr => ∃ i : Nat, i ≤ n ∧ iv = .int .i64 (i : Int) ∧ wr = w) (fun iv _ => n - (intOf iv).toNat)
 case atStart => exact ⟨0, Nat.zero_le _, rfl, rfl⟩
 case round =>
   obtain ⟨i, hi, rfl, rfl⟩ := hrel
   by_cases hin : i < n
   · obtain ⟨bb, oo, x, rfl, hlt, hx, hA⟩ := HR.out.at_ (j := i) hin
     have c2 := hA 2 _ rfl
     have hin1 : (i : Int) < (n : Int) := by omega
     clear hA hx
     by_cases h2 : x.d.size ≤ 200
     · have h3 : ¬ ((200 : Int) < (x.d.size : Int)) := by omega
       go_wp2_with fail
       go_roundw
       case rel => exact ⟨i + 1, by omega, by go_num, trivial⟩
       case measure => simp [intOf] <;> omega
     · have h3 : (200 : Int) < (x.d.size : Int) := by omega
       go_wp2_with fail
       go_ret
       exact ⟨false, rfl, rfl⟩
   · obtain rfl : i = n := by omega
     go_wp2_with fail
     go_ret
     exact ⟨true, rfl, rfl⟩
set_option maxHeartbeats 1000000 in
theorem light_any (L : LgL) (A : Option Addr) (n c : Nat) (A2 : Option Addr) (n2 c2 : Nat) (es2 : List EnL) (w : World) (B B2 : Nat) (hR : RdE w B A n L.es) (hB : B ≤ w.heap.size) (hE : RdE w B2 A2 n2 es2) (hB2 : B2 ≤ w.heap.size) : Calls Tryz.prog 47 #[lgV L (.slice A n c), .slice A2 n2 c2] w fun e w' => ∃ bl, e = .returned (.bool bl) ∧ Hid (bl = true → n ≤ 60 ∧ n2 ≤ 60) ∧ Below w.heap.size w w' := by
 have HR := Lib.hid hR
 have HE := Lib.hid hE
 have hBs := Lib.hid hB
 have hBt := Lib.hid hB2
 clear hR hE hB hB2
 unfold lgV at *
 obtain ⟨b, t, j, es⟩ := L
 dsimp only at *
 have k0 : Blk 30 (w.alloc (.cells #[.int .i64 b, .int .i64 t, j0 j, j1 j, j2 j, j3 j, j4 j, j5 j, j6 j, j7 j, j8 j, j9 j, j10 j, .slice A n c] 30)) w.heap.size [.int .i64 b, .int .i64 t, j0 j, j1 j, j2 j, j3 j, j4 j, j5 j, j6 j, j7 j, j8 j, j9 j, j10 j, .slice A n c] := (heap_alloc_new w (.cells #[.int .i64 b, .int .i64 t, j0 j, j1 j, j2 j, j3 j, j4 j, j5 j, j6 j, j7 j, j8 j, j9 j, j10 j, .slice A n c] 30))
 have hB : Below w.heap.size w (w.alloc (.cells #[.int .i64 b, .int .i64 t, j0 j, j1 j, j2 j, j3 j, j4 j, j5 j, j6 j, j7 j, j8 j, j9 j, j10 j, .slice A n c] 30)) := ((Below.refl w.heap.size w).alloc (by first | exact Nat.le_refl _ | (simp; done) | (simp; omega)) (.cells #[.int .i64 b, .int .i64 t, j0 j, j1 j, j2 j, j3 j, j4 j, j5 j, j6 j, j7 j, j8 j, j9 j, j10 j, .slice A n c] 30))
 have HB := Lib.hid hB
 have HS : Hid (∀ wq, Below (w.alloc (.cells #[.int .i64 b, .int .i64 t, j0 j, j1 j, j2 j, j3 j, j4 j, j5 j, j6 j, j7 j, j8 j, j9 j, j10 j, .slice A n c] 30)).heap.size (w.alloc (.cells #[.int .i64 b, .int .i64 t, j0 j, j1 j, j2 j, j3 j, j4 j, j5 j, j6 j, j7 j, j8 j, j9 j, j10 j, .slice A n c] 30)) wq → (wq.cell? ⟨w.heap.size, 0, none⟩ = some (.int .i64 b) ∧ wq.cell? ⟨w.heap.size, 1, none⟩ = some (.int .i64 t) ∧ wq.cell? ⟨w.heap.size, 2, none⟩ = some (j0 j) ∧ wq.cell? ⟨w.heap.size, 3, none⟩ = some (j1 j) ∧ wq.cell? ⟨w.heap.size, 4, none⟩ = some (j2 j) ∧ wq.cell? ⟨w.heap.size, 5, none⟩ = some (j3 j) ∧ wq.cell? ⟨w.heap.size, 6, none⟩ = some (j4 j) ∧ wq.cell? ⟨w.heap.size, 7, none⟩ = some (j5 j) ∧ wq.cell? ⟨w.heap.size, 8, none⟩ = some (j6 j) ∧ wq.cell? ⟨w.heap.size, 9, none⟩ = some (j7 j) ∧ wq.cell? ⟨w.heap.size, 10, none⟩ = some (j8 j) ∧ wq.cell? ⟨w.heap.size, 11, none⟩ = some (j9 j) ∧ wq.cell? ⟨w.heap.size, 12, none⟩ = some (j10 j) ∧ wq.cell? ⟨w.heap.size, 13, none⟩ = some (.slice A n c))) := fun wq hq => blk14 (k0.below hq k0.lt)
 have q0 := Below.refl (w.alloc (.cells #[.int .i64 b, .int .i64 t, j0 j, j1 j, j2 j, j3 j, j4 j, j5 j, j6 j, j7 j, j8 j, j9 j, j10 j, .slice A n c] 30)).heap.size (w.alloc (.cells #[.int .i64 b, .int .i64 t, j0 j, j1 j, j2 j, j3 j, j4 j, j5 j, j6 j, j7 j, j8 j, j9 j, j10 j, .slice A n c] 30))
 have K0 := Lib.hid k0
 clear hB k0
 by_cases h1 : n ≤ 60
 · by_cases h2 : n2 ≤ 60
   · have h3 : ¬ ((60 : Int) < (n : Int)) := by omega
     have h4 : ¬ ((60 : Int) < (n2 : Int)) := by omega
     go_enter Tryz.func47, Tryz.ntmps47
     go_upto_region 1 with (fail)
     generalize (w.alloc (.cells #[.int .i64 b, .int .i64 t, j0 j, j1 j, j2 j, j3 j, j4 j, j5 j, j6 j, j7 j, j8 j, j9 j, j10 j, .slice A n c] 30)) = w1 at *
     have HR1 := Lib.hid (HR.out.on (HB.out.mono hBs.out) (Nat.le_trans hBs.out HB.out.size))
     have HE1 := Lib.hid (HE.out.on (HB.out.mono hBt.out) (Nat.le_trans hBt.out HB.out.size))
     have r0 := HS.out _ q0
     go_wp2_with fail
     refine (small_any A n c es w1 w1.heap.size HR1.out (by omega)).mono ?_
     rintro e y1 ⟨bl, rfl, rfl⟩
     cases bl
     · go_wp2_with fail
       go_ret
       first | exact ⟨false, rfl, (Lib.hid (fun h => by cases h)), HB.out⟩ | exact .inl ⟨rfl, Lib.hid trivial, HB.out⟩
     · go_wp2_with fail
       refine (small_any A2 n2 c2 es2 w1 w1.heap.size HE1.out (by omega)).mono ?_
       rintro e y1 ⟨bl, rfl, rfl⟩
       go_wp2_with fail
       go_ret
       exact ⟨bl, by first | rfl | simp, (Lib.hid (fun _ => ⟨h1, h2⟩)), HB.out⟩
   · have h3 : ¬ ((60 : Int) < (n : Int)) := by omega
     have h4 : (60 : Int) < (n2 : Int) := by omega
     clear h1 h2
     go_enter Tryz.func47, Tryz.ntmps47
     go_upto_region 1 with (fail)
     generalize (w.alloc (.cells #[.int .i64 b, .int .i64 t, j0 j, j1 j, j2 j, j3 j, j4 j, j5 j, j6 j, j7 j, j8 j, j9 j, j10 j, .slice A n c] 30)) = w1 at *
     have HR1 := Lib.hid (HR.out.on (HB.out.mono hBs.out) (Nat.le_trans hBs.out HB.out.size))
     have HE1 := Lib.hid (HE.out.on (HB.out.mono hBt.out) (Nat.le_trans hBt.out HB.out.size))
     have r0 := HS.out _ q0
     go_wp2_with fail
     go_ret
     first | exact ⟨false, rfl, (Lib.hid (fun h => by cases h)), HB.out⟩ | exact .inl ⟨rfl, Lib.hid trivial, HB.out⟩
 · have h3 : (60 : Int) < (n : Int) := by omega
   clear h1
   go_enter Tryz.func47, Tryz.ntmps47
   go_upto_region 1 with (fail)
   generalize (w.alloc (.cells #[.int .i64 b, .int .i64 t, j0 j, j1 j, j2 j, j3 j, j4 j, j5 j, j6 j, j7 j, j8 j, j9 j, j10 j, .slice A n c] 30)) = w1 at *
   have HR1 := Lib.hid (HR.out.on (HB.out.mono hBs.out) (Nat.le_trans hBs.out HB.out.size))
   have HE1 := Lib.hid (HE.out.on (HB.out.mono hBt.out) (Nat.le_trans hBt.out HB.out.size))
   have r0 := HS.out _ q0
   go_wp2_with fail
   go_ret
   first | exact ⟨false, rfl, (Lib.hid (fun h => by cases h)), HB.out⟩ | exact .inl ⟨rfl, Lib.hid trivial, HB.out⟩
end Go.Proofs.YtegnfkbmlalkeaaGreat.law12
namespace Go.Proofs.YtegnfkbmlalkeaaGreat.enti
open Go Go.RowKit Go.Proofs.YtegnfkbmlalkeaaGreat.kit Go.Proofs.YtegnfkbmlalkeaaGreat.nums Go.Proofs.YtegnfkbmlalkeaaGreat.cf Go.Proofs.YtegnfkbmlalkeaaGreat.lg
set_option linter.unusedVariables false
theorem wrap_sm {z : Int} (h1 : -9000000000000000000 ≤ z) (h2 : z ≤ 9000000000000000000) : IntKind.i64.wrap z = z := by rw [IntKind.wrap_i64]; omega
theorem last_any (L : LgL) (A : Option Addr) (n c : Nat) (w : World) (hn : L.es.length = n) (hf : Fit L) : Calls Tryz.prog 48 #[lgV L (.slice A n c)] w fun e w' => e = .returned (.int .i64 (lastF L)) ∧ Below w.heap.size w w' := by
 obtain ⟨h0, h1, h2⟩ := hf
 have u1 : IntKind.i64.wrap (L.b + (n : Int)) = L.b + (n : Int) := enti.wrap_sm (by omega) (by omega)
 have hl : lastF L = L.b + (n : Int) := by unfold lastF; rw [hn]
 rw [hl]
 unfold lgV
 obtain ⟨b, t, j, es⟩ := L
 dsimp only at *
 clear hl hn
 have k0 : Blk 30 (w.alloc (.cells #[.int .i64 b, .int .i64 t, j0 j, j1 j, j2 j, j3 j, j4 j, j5 j, j6 j, j7 j, j8 j, j9 j, j10 j, .slice A n c] 30)) w.heap.size [.int .i64 b, .int .i64 t, j0 j, j1 j, j2 j, j3 j, j4 j, j5 j, j6 j, j7 j, j8 j, j9 j, j10 j, .slice A n c] := (heap_alloc_new w (.cells #[.int .i64 b, .int .i64 t, j0 j, j1 j, j2 j, j3 j, j4 j, j5 j, j6 j, j7 j, j8 j, j9 j, j10 j, .slice A n c] 30))
 have hB : Below w.heap.size w (w.alloc (.cells #[.int .i64 b, .int .i64 t, j0 j, j1 j, j2 j, j3 j, j4 j, j5 j, j6 j, j7 j, j8 j, j9 j, j10 j, .slice A n c] 30)) := ((Below.refl w.heap.size w).alloc (by first | exact Nat.le_refl _ | simp) (.cells #[.int .i64 b, .int .i64 t, j0 j, j1 j, j2 j, j3 j, j4 j, j5 j, j6 j, j7 j, j8 j, j9 j, j10 j, .slice A n c] 30))
 have HB := Lib.hid hB
 clear hB
 go_enter Tryz.func48, Tryz.ntmps48
 go_wp2_with fail
 go_ret
 exact ⟨rfl, HB.out⟩
theorem behind_any (L : LgL) (A : Option Addr) (n c k : Nat) (i : Int) (w : World) (B : Nat) (hR : RdE w B A n L.es) (hB : B ≤ w.heap.size) (hc : n ≤ c) (hf : Fit L) (hi : i = L.b + k) (hk : k ≤ n) : Calls Tryz.prog 152 #[lgV L (.slice A n c), .int .i64 i] w fun e w' => ∃ A' c', e = .returned (.slice A' (n - k) c') ∧ RdE w' B A' (n - k) (L.es.drop k) ∧ (n - k) ≤ c' ∧ c' ≤ c ∧ Below w.heap.size w w' := by
 obtain ⟨h0, h1, h2⟩ := hf
 have hl := hR.1
 have u1 : IntKind.i64.wrap (i - L.b) = (k : Int) := by rw [enti.wrap_sm (by omega) (by omega)]; omega
 have HR := Lib.hid hR
 have hBs := hB
 clear hi hR hB
 unfold lgV
 obtain ⟨b, t, j, es⟩ := L
 dsimp only at *
 clear h0 h1 h2 hl
 have k0 : Blk 30 (w.alloc (.cells #[.int .i64 b, .int .i64 t, j0 j, j1 j, j2 j, j3 j, j4 j, j5 j, j6 j, j7 j, j8 j, j9 j, j10 j, .slice A n c] 30)) w.heap.size [.int .i64 b, .int .i64 t, j0 j, j1 j, j2 j, j3 j, j4 j, j5 j, j6 j, j7 j, j8 j, j9 j, j10 j, .slice A n c] := (heap_alloc_new w (.cells #[.int .i64 b, .int .i64 t, j0 j, j1 j, j2 j, j3 j, j4 j, j5 j, j6 j, j7 j, j8 j, j9 j, j10 j, .slice A n c] 30))
 have hB : Below w.heap.size w (w.alloc (.cells #[.int .i64 b, .int .i64 t, j0 j, j1 j, j2 j, j3 j, j4 j, j5 j, j6 j, j7 j, j8 j, j9 j, j10 j, .slice A n c] 30)) := ((Below.refl w.heap.size w).alloc (by first | exact Nat.le_refl _ | simp) (.cells #[.int .i64 b, .int .i64 t, j0 j, j1 j, j2 j, j3 j, j4 j, j5 j, j6 j, j7 j, j8 j, j9 j, j10 j, .slice A n c] 30))
 have HB := Lib.hid hB
 clear hB
 go_enter Tryz.func152, Tryz.ntmps152
 go_wp2_with (with_reducible refine wpList_slice_lE rfl _ _ rfl A n c B es rfl (HR.out.on (HB.out.mono hBs) (Nat.le_refl _)) .i64 _ k rfl rfl hk hc ?_)
 intro A' c' hR2 hc1 hc2
 have HR2 := Lib.hid hR2
 clear hR2
 go_wp2_with fail
 go_ret
 exact ⟨A', c', rfl, HR2.out, by omega, by omega, HB.out⟩
end Go.Proofs.YtegnfkbmlalkeaaGreat.enti
namespace Go.Proofs.YtegnfkbmlalkeaaGreat.cr
open Go.Proofs.YtegnfkbmlalkeaaGreat.nums Go.Proofs.YtegnfkbmlalkeaaGreat.se Go.Proofs.YtegnfkbmlalkeaaGreat.cf Go.Proofs.YtegnfkbmlalkeaaGreat.lg
set_option linter.unusedVariables false
theorem may_small {s : Nat} (h : se.mayF s = true) : s < 65536 := by
 have h1 := may_iff.1 h
 have : s &&& 1022 ≤ 1022 := Nat.and_le_right
 omega
theorem mayC_ok {c : CfL} (h : mayC c = true) : c.ok := by
 obtain ⟨h1, h2, h3, _, h5, h6, h7, h8, _⟩ := may_parts h
 have h9 := cntF_le (votF c)
 refine ⟨may_small h1, may_small h2, may_small h3, ?_, ?_⟩ <;> unfold In64 <;> omega
theorem mayJ_ok {j : JtL} (h : mayJ j = true) : j.ok := by
 refine ⟨mayC_ok (mayJ_a h), ?_⟩
 cases ht : j.two with
 | true => exact mayC_ok (mayJ_b h ht)
 | false =>
   unfold mayJ at h
   rw [Bool.and_eq_true, ht] at h
   have := of_decide_eq_true h.2
   rw [this]; exact zero_ok
theorem conf_may : ∀ {es : List EnL} {j : JtL}, mayJ j = true → (es.all fun e => !(e.k == 2) || mayJ e.j) = true → mayJ (confF j es) = true
 | [], j, hj, _ => hj
 | e :: es, j, hj, h => by
   rw [List.all_cons, Bool.and_eq_true] at h
   show mayJ (confF (if e.k = 2 then e.j else j) es) = true
   refine conf_may ?_ h.2
   by_cases hk : e.k = 2
   · rw [if_pos hk]
     have := h.1
     simpa [hk] using this
   · rw [if_neg hk]; exact hj
def GoodN (d : CoL) (N : Nat) : Prop := Fit d.lg ∧ d.lg.es.length ≤ N ∧ 0 ≤ d.id ∧ d.id ≤ 9 ∧ (conC d).ok ∧ mayJ (conC d) = true ∧ d.lg.b ≤ d.cm ∧ d.cm ≤ lastF d.lg
structure GoodK (c : CoL) : Prop where
 id1 : 1 ≤ c.id
 n : GoodN c 700000
 la : lastF c.lg ≤ 2199023255550
 ro : 0 ≤ c.ro ∧ c.ro ≤ 2
 tm : 0 ≤ c.tm ∧ c.tm ≤ 1099511627776
 vo : 0 ≤ c.vo ∧ c.vo ≤ 9
 le : 0 ≤ c.le ∧ c.le ≤ 9
 wa : 0 ≤ c.wa ∧ c.wa ≤ 1099511627776
 sf : 0 ≤ c.sf ∧ c.sf ≤ 1099511627776
 nx : ∀ k : Nat, k < 10 → 0 ≤ c.nx k ∧ c.nx k ≤ 2199023255552
 mt : ∀ k : Nat, k < 10 → 0 ≤ c.mt k ∧ c.mt k ≤ lastF c.lg
 vs : c.vs < 65536
 he : c.he < 65536
theorem upB_iff {n m : Int} : upB n m = true ↔ 0 ≤ n ∧ n ≤ m := by unfold upB; rw [Bool.and_eq_true, decide_eq_true_eq, decide_eq_true_eq]
theorem good_may {c : CoL} (h : mayK c = true) (hl : c.lg.es.length ≤ 700000) (hv : c.vs < 65536) (hh : c.he < 65536) : GoodK c := by
 simp only [mayK, Bool.and_eq_true, upB_iff, decide_eq_true_eq, List.all_eq_true, List.mem_range] at h
 obtain ⟨h1, h2, h3, h4, h5, h6, h7, h8, h9, h10, h11⟩ := h
 simp only [mayG, Bool.and_eq_true] at h6
 obtain ⟨g1, g2, g3⟩ := h6
 have hb := mayF_b g1
 have hj : mayJ (conC c) = true := conf_may g2 g3
 obtain ⟨k, hk, k1, k9⟩ := nodeB_nat h1
 have hla : lastF c.lg ≤ 2199023255550 := by unfold lastF; omega
 exact ⟨by omega, ⟨⟨hb.1, by omega, by omega⟩, hl, by omega, by omega, mayJ_ok hj, hj, h8.1, h8.2⟩, hla, h2, h3, h4, h5, h9, h10, fun k hk => (h11 k hk).1, fun k hk => (h11 k hk).2, hv, hh⟩
end Go.Proofs.YtegnfkbmlalkeaaGreat.cr
namespace Go.Proofs.YtegnfkbmlalkeaaGreat.cr
open Go.Proofs.YtegnfkbmlalkeaaGreat.nums Go.Proofs.YtegnfkbmlalkeaaGreat.se Go.Proofs.YtegnfkbmlalkeaaGreat.cf Go.Proofs.YtegnfkbmlalkeaaGreat.lg
set_option linter.unusedVariables false
theorem mem_listTo {s k j : Nat} (h1 : 1 ≤ j) (hj : j ≤ k) (hb : s.testBit j = true) : (j : Int) ∈ listTo s k := by
 induction k with
 | zero => omega
 | succ k ih =>
   simp only [listTo]
   by_cases e : j = k + 1
   · subst e; rw [if_pos hb]; simp
   · have := ih (by omega)
     split
     · exact List.mem_append_left _ this
     · exact this
theorem list_iff {s : Nat} {n : Int} : n ∈ listF s ↔ hasF s n = true := by
 constructor
 · intro h
   obtain ⟨j, rfl, h1, h9, hb⟩ := listTo_mem h (by omega)
   rw [hasF_node h1 h9]; exact hb
 · intro h
   obtain ⟨k, rfl, h1, h9⟩ := nodeB_nat (has_node h)
   rw [hasF_node h1 h9] at h
   exact mem_listTo h1 h9 h
theorem list_some {s : Nat} (h0 : s ≠ 0) (hm : se.mayF s = true) : listF s ≠ [] := by
 intro h
 have h2 := ofF_list s
 rw [h] at h2
 have h3 := may_iff.1 hm
 rw [h3] at h2
 exact h0 (Option.some.inj h2).symm
theorem leastL_spec (c : CoL) : ∀ (l : List Int) (s : Int), (∀ v ∈ l, 0 ≤ mtF c v) →
   ((0 ≤ s ∨ l ≠ []) → 0 ≤ leastL c s l) ∧ (0 ≤ s → leastL c s l ≤ s) ∧ (∀ v ∈ l, leastL c s l ≤ mtF c v) ∧ (leastL c s l = s ∨ ∃ v ∈ l, leastL c s l = mtF c v)
 | [], s, _ => ⟨fun h => h.elim id (fun e => absurd rfl e), fun _ => Int.le_refl _, (fun v h => by cases h), .inl rfl⟩
 | v :: l, s, h => by
   have hv := h v (List.mem_cons_self ..)
   show ((0 ≤ s ∨ v :: l ≠ []) → 0 ≤ leastL c (if s < 0 ∨ mtF c v < s then mtF c v else s) l) ∧ (0 ≤ s → leastL c (if s < 0 ∨ mtF c v < s then mtF c v else s) l ≤ s) ∧ (∀ u ∈ v :: l, leastL c (if s < 0 ∨ mtF c v < s then mtF c v else s) l ≤ mtF c u) ∧ (leastL c (if s < 0 ∨ mtF c v < s then mtF c v else s) l = s ∨ ∃ u ∈ v :: l, leastL c (if s < 0 ∨ mtF c v < s then mtF c v else s) l = mtF c u)
   obtain ⟨s', hs'⟩ : ∃ q, (if s < 0 ∨ mtF c v < s then mtF c v else s) = q := ⟨_, rfl⟩
   have h0 : 0 ≤ s' ∧ s' ≤ mtF c v ∧ (0 ≤ s → s' ≤ s) ∧ (s' = s ∨ s' = mtF c v) := by
     rw [← hs']; split <;> omega
   rw [hs']
   obtain ⟨i1, i2, i3, i4⟩ := leastL_spec c l s' (fun u hu => h u (List.mem_cons_of_mem _ hu))
   refine ⟨fun _ => i1 (.inl h0.1), fun hs => Int.le_trans (i2 h0.1) (h0.2.2.1 hs), fun u hu => ?_, ?_⟩
   · rcases List.mem_cons.1 hu with rfl | hu
     · exact Int.le_trans (i2 h0.1) h0.2.1
     · exact i3 u hu
   · rcases i4 with e | ⟨u, hu, e⟩
     · rcases h0.2.2.2 with e2 | e2
       · exact .inl (e.trans e2)
       · exact .inr ⟨v, List.mem_cons_self .., e.trans e2⟩
     · exact .inr ⟨u, List.mem_cons_of_mem _ hu, e⟩
def lmTo (c : CoL) (j : JtL) : Nat → Int
 | 0 => lastF c.lg
 | k + 1 => if ledF j ((k + 1 : Nat) : Int) = true then min (lmTo c j k) (mtF c ((k + 1 : Nat) : Int)) else lmTo c j k
theorem lm_spec (c : CoL) (j : JtL) : ∀ k : Nat, lmTo c j k ≤ lastF c.lg ∧ (∀ i : Nat, 1 ≤ i → i ≤ k → ledF j (i : Int) = true → lmTo c j k ≤ mtF c (i : Int)) ∧ (lmTo c j k = lastF c.lg ∨ ∃ i : Nat, ledF j (i : Int) = true ∧ lmTo c j k = mtF c (i : Int))
 | 0 => ⟨Int.le_refl _, fun i h1 h2 => by omega, .inl rfl⟩
 | k + 1 => by
   obtain ⟨i1, i2, i3⟩ := lm_spec c j k
   by_cases hl : ledF j ((k + 1 : Nat) : Int) = true
   · have e : lmTo c j (k + 1) = min (lmTo c j k) (mtF c ((k + 1 : Nat) : Int)) := if_pos hl
     rw [e]
     refine ⟨by omega, fun i h1 h2 h3 => ?_, ?_⟩
     · by_cases he : i = k + 1
       · subst he; omega
       · have := i2 i h1 (by omega) h3; omega
     · by_cases hm : lmTo c j k ≤ mtF c ((k + 1 : Nat) : Int)
       · rw [show min (lmTo c j k) (mtF c ((k + 1 : Nat) : Int)) = lmTo c j k by omega]; exact i3
       · exact .inr ⟨k + 1, hl, by omega⟩
   · have e : lmTo c j (k + 1) = lmTo c j k := if_neg hl
     rw [e]
     refine ⟨i1, fun i h1 h2 h3 => ?_, i3⟩
     by_cases he : i = k + 1
     · subst he; exact absurd h3 hl
     · exact i2 i h1 (by omega) h3
theorem led_list {j : JtL} {n : Int} : ledF j n = true ↔ n ∈ listF j.a.v ∨ (j.two = true ∧ n ∈ listF j.b.v) := by
 unfold ledF unF
 cases ht : j.two
 · simp [list_iff]
 · simp [has_or, list_iff]
def Mt (c : CoL) : Prop := ∀ k : Nat, k < 10 → 0 ≤ c.mt k ∧ c.mt k ≤ lastF c.lg
theorem leastC_lm {c : CoL} (hj : mayJ (conC c) = true) (hm : Mt c) : leastC c = lmTo c (conC c) 9 := by
 have hn : ∀ n : Int, ledF (conC c) n = true → 1 ≤ n ∧ n ≤ 9 := fun n h => by
   obtain ⟨k, rfl, h1, h9⟩ := nodeB_nat (has_node h)
   omega
 have hmt : ∀ n : Int, ledF (conC c) n = true → 0 ≤ mtF c n ∧ mtF c n ≤ lastF c.lg := fun n h => by
   have := hn n h
   exact hm n.toNat (by omega)
 have hva := list_some (may_parts (mayJ_a hj)).2.2.2.1 (may_parts (mayJ_a hj)).1
 obtain ⟨n0, hn0⟩ := List.exists_mem_of_ne_nil _ hva
 have hl0 : ledF (conC c) n0 = true := led_list.2 (.inl hn0)
 have hA : (∀ n, ledF (conC c) n = true → leastC c ≤ mtF c n) ∧ ∃ n, ledF (conC c) n = true ∧ leastC c = mtF c n := by
   have ha := leastL_spec c (listF (conC c).a.v) (-1) (fun v hv => (hmt v (led_list.2 (.inl hv))).1)
   obtain ⟨a1, a2, a3, a4⟩ := ha
   have hp := a1 (.inr hva)
   cases ht : (conC c).two
   · have e : leastC c = leastL c (-1) (listF (conC c).a.v) := by unfold leastC twoF; rw [ht]; rfl
     rw [e]
     refine ⟨fun n h => ?_, ?_⟩
     · rcases led_list.1 h with h | h
       · exact a3 n h
       · rw [ht] at h; exact absurd h.1 (by decide)
     · rcases a4 with h | ⟨v, hv, h⟩
       · omega
       · exact ⟨v, led_list.2 (.inl hv), h⟩
   · have e : leastC c = leastL c (leastL c (-1) (listF (conC c).a.v)) (listF (conC c).b.v) := by unfold leastC twoF; rw [ht]; rfl
     rw [e]
     obtain ⟨b1, b2, b3, b4⟩ := leastL_spec c (listF (conC c).b.v) (leastL c (-1) (listF (conC c).a.v)) (fun v hv => (hmt v (led_list.2 (.inr ⟨ht, hv⟩))).1)
     refine ⟨fun n h => ?_, ?_⟩
     · rcases led_list.1 h with h | h
       · exact Int.le_trans (b2 hp) (a3 n h)
       · exact b3 n h.2
     · rcases b4 with h | ⟨v, hv, h⟩
       · rcases a4 with h2 | ⟨v, hv, h2⟩
         · omega
         · exact ⟨v, led_list.2 (.inl hv), h.trans h2⟩
       · exact ⟨v, led_list.2 (.inr ⟨ht, hv⟩), h⟩
 obtain ⟨l1, l2, l3⟩ := lm_spec c (conC c) 9
 have l2' : ∀ n, ledF (conC c) n = true → lmTo c (conC c) 9 ≤ mtF c n := fun n h => by
   have h9 := hn n h
   have := l2 n.toNat (by omega) (by omega) (by rw [Int.toNat_of_nonneg (by omega)]; exact h)
   rwa [Int.toNat_of_nonneg (by omega)] at this
 obtain ⟨n1, hl1, e1⟩ := hA.2
 apply Int.le_antisymm
 · rcases l3 with e | ⟨i, hi, e⟩
   · rw [e, e1]; exact (hmt n1 hl1).2
   · rw [e]; exact hA.1 _ hi
 · rw [e1]; exact l2' n1 hl1
end Go.Proofs.YtegnfkbmlalkeaaGreat.cr
namespace Go.Proofs.YtegnfkbmlalkeaaGreat.ref9
open Go Go.RowKit Go.Proofs.YtegnfkbmlalkeaaGreat.kit Go.Proofs.YtegnfkbmlalkeaaGreat.nums Go.Proofs.YtegnfkbmlalkeaaGreat.se Go.Proofs.YtegnfkbmlalkeaaGreat.cf
set_option linter.unusedVariables false
theorem count_any (s : Nat) (w : World) (hs : s < 65536) : Calls Tryz.prog 40 #[.int .u16 (s : Int)] w fun e w' => e = .returned (.int .i64 ((cntF s : Nat) : Int)) ∧ Below w.heap.size w w' := by
 have C := Lib.hid (list_any s w hs)
 have hl := cntF_list s
 have h9 := list_len s
 generalize listF s = l at *
 rw [← hl]
 go_enter Tryz.func40, Tryz.ntmps40
 go_wp2_with fail
 refine C.out.mono ?_
 rintro e w2 ⟨A, c, rfl, hO, hB⟩
 clear hO C
 go_wp2_with fail
 go_ret
 exact ⟨ret_i64 (by rw [hl]), hB⟩
theorem join_any (a b : Nat) (w : World) (ha : a < 65536) (hb : b < 65536) : Calls Tryz.prog 101 #[.int .u16 (a : Int), .int .u16 (b : Int)] w fun e w' => e = .returned (.int .u16 ((joinF a b : Nat) : Int)) ∧ w = w' := by
 have CA := Lib.hid (fun (j : Nat) (hj : j ≤ 9) w => has_any a (j : Int) w ha (by omega) (by omega))
 have CB := Lib.hid (fun (j : Nat) (hj : j ≤ 9) w => has_any b (j : Int) w hb (by omega) (by omega))
 have CW := Lib.hid (fun (z : Nat) (hz : z < 65536) (j : Nat) (hj : j ≤ 9) w => with_any z (j : Int) w hz (by omega) (by omega))
 go_enter Tryz.func101, Tryz.ntmps101
 go_wp2_with fail
 go_loop [5, 6] (fun sv nv => ∃ (j z : Nat), j ≤ 9 ∧ nv = .int .i64 ((j + 1 : Nat) : Int) ∧ sv = .int .u16 (z : Int) ∧ z < 65536 ∧ Hid (z = lowF (a ||| b) j)) (fun _ nv => 10 - (intOf nv).toNat)
 case atStart => exact ⟨0, 0, by omega, rfl, rfl, by omega, by show 0 = _; rw [lowF_zero]⟩
 case round =>
   obtain ⟨j, z, hj, rfl, rfl, hz, HZ⟩ := hrel
   by_cases hlt : j < 9
   · have hA := CA.out (j + 1) (by omega)
     have hB := CB.out (j + 1) (by omega)
     have hW := CW.out z hz (j + 1) (by omega)
     rw [hasF_node (by omega) (by omega)] at hA hB
     have HN : Hid (lowF (a ||| b) (j + 1) = if (a.testBit (j + 1) || b.testBit (j + 1)) = true then withF z ((j + 1 : Nat) : Int) else z) := by
       show _ = _; rw [lowF_succ _ _ hlt, Nat.testBit_or, ← HZ.out]
     have hwl := withF_lt ((j + 1 : Nat) : Int) hz
     have HA := Lib.hid hA
     have HB := Lib.hid hB
     have HW := Lib.hid hW
     generalize a.testBit (j + 1) = ta at *
     generalize b.testBit (j + 1) = tb at *
     generalize withF z ((j + 1 : Nat) : Int) = y at *
     clear hA hB hW CA CB CW HZ
     cases ta
     · cases tb
       · go_wp2_with fail
         refine (HA.out _).mono ?_
         rintro e w2 ⟨rfl, rfl⟩
         go_wp2_with fail
         refine (HB.out _).mono ?_
         rintro e w2 ⟨rfl, rfl⟩
         go_wp2_with fail
         go_round
         case rel => exact ⟨j + 1, z, by omega, by go_num, rfl, hz, by show _ = _; rw [HN.out]; rfl⟩
         case measure => simp [intOf]; omega
       · go_wp2_with fail
         refine (HA.out _).mono ?_
         rintro e w2 ⟨rfl, rfl⟩
         go_wp2_with fail
         refine (HB.out _).mono ?_
         rintro e w2 ⟨rfl, rfl⟩
         go_wp2_with fail
         refine (HW.out _).mono ?_
         rintro e w2 ⟨rfl, rfl⟩
         go_wp2_with fail
         go_round
         case rel => exact ⟨j + 1, y, by omega, by go_num, rfl, hwl, by show _ = _; rw [HN.out]; rfl⟩
         case measure => simp [intOf]; omega
     · go_wp2_with fail
       refine (HA.out _).mono ?_
       rintro e w2 ⟨rfl, rfl⟩
       go_wp2_with fail
       refine (HW.out _).mono ?_
       rintro e w2 ⟨rfl, rfl⟩
       go_wp2_with fail
       go_round
       case rel => exact ⟨j + 1, y, by omega, by go_num, rfl, hwl, by show _ = _; rw [HN.out]; rfl⟩
       case measure => simp [intOf]; omega
   · obtain rfl : j = 9 := by omega
     have HV : Hid (z = joinF a b) := by show _ = _; rw [HZ.out, lowF_all]; rfl
     go_wp2_with fail
     go_ret
     exact ⟨by rw [HV.out]; rfl, rfl⟩
end Go.Proofs.YtegnfkbmlalkeaaGreat.ref9
namespace Go.Proofs.YtegnfkbmlalkeaaGreat.cr
open Go.Proofs.YtegnfkbmlalkeaaGreat.nums Go.Proofs.YtegnfkbmlalkeaaGreat.se Go.Proofs.YtegnfkbmlalkeaaGreat.cf Go.Proofs.YtegnfkbmlalkeaaGreat.lg
set_option linter.unusedVariables false
def TV (c d : CoL) : Prop := d.tm = c.tm ∧ d.vo = c.vo
theorem TV.trans {a b c : CoL} (h : TV a b) (g : TV b c) : TV a c := ⟨g.1.trans h.1, g.2.trans h.2⟩
def stickyB (c : CoL) : Bool := c.ro == 2 || (!(c.le == 0) && decide (c.wa < 10))
theorem step_stale {c : CoL} {m : MsL} (h1 : 1 ≤ m.m) (h2 : m.m < c.tm) (h3 : m.t = c.id) (h4 : nodeB m.f = true) (h5 : m.f ≠ c.id) (h6 : c.tm ≤ 1099511627776) :
   stepF c m = (c, if m.k = 1 then (if stickyB c = true then [] else [sayF c m.f { zM with k := 2 }]) else if m.k = 3 ∨ m.k = 5 then [sayF c m.f { zM with k := 4 }] else []) := by
 have hdeaf : deafB c m = (decide (m.k < 1) || decide (6 < m.k) || (m.k == 1 && stickyB c)) := by
   unfold deafB stickyB
   rw [h3, h4, beq_self_eq_true, beq_eq_false_iff_ne.2 h5, decide_eq_false (show ¬ m.m < 1 by omega), decide_eq_false (show ¬ 1099511627776 < m.m by omega)]
   simp
 have ht : termC c m = c := by unfold termC; rw [if_neg (by omega)]
 unfold stepF
 dsimp only
 rw [hdeaf, ht, if_pos h2]
 by_cases k1 : m.k = 1
 · rw [if_pos k1, show decide (m.k < 1) = false from decide_eq_false (by omega), show decide (6 < m.k) = false from decide_eq_false (by omega), show (m.k == 1) = true by rw [k1]; rfl]
   cases hst : stickyB c
   · simp [staleF, k1]
   · simp
 · rw [if_neg k1, show (m.k == 1) = false from beq_eq_false_iff_ne.2 k1]
   by_cases hr : m.k < 1 ∨ 6 < m.k
   · rw [if_pos (by rcases hr with h | h <;> simp [h]), if_neg (by omega)]
   · rw [show decide (m.k < 1) = false from decide_eq_false (by omega), show decide (6 < m.k) = false from decide_eq_false (by omega)]
     simp [staleF, k1]
end Go.Proofs.YtegnfkbmlalkeaaGreat.cr
namespace Go.Proofs.YtegnfkbmlalkeaaGreat.kit
open Go Go.RowKit Go.Proofs.YtegnfkbmlalkeaaGreat.nums Go.Proofs.YtegnfkbmlalkeaaGreat.cf Go.Proofs.YtegnfkbmlalkeaaGreat.lg
set_option linter.unusedVariables false
set_option maxHeartbeats 2000000 in
theorem neq_jt (x y : JtL) (w : World) : (binOp .neq 27 (jV x) (jV y)).run Tryz.prog w = .ok (.bool (!decide (x = y))) w := by
 unfold jV j0 j1 j2 j3 j4 j5 j6 j7 j8 j9 j10
 obtain ⟨⟨av, aw, al, ae, ak⟩, ⟨bv, bw, bl, be, bk⟩, tw⟩ := x
 obtain ⟨⟨av2, aw2, al2, ae2, ak2⟩, ⟨bv2, bw2, bl2, be2, bk2⟩, tw2⟩ := y
 dsimp only
 simp only [JtL.mk.injEq, CfL.mk.injEq]
 go_simp
 simp only [Int.natCast_inj]
 rcases Decidable.em (av = av2) with h_av | h_av
 rotate_left
 · rw [if_neg h_av]; simp [h_av]
 rw [if_pos h_av]
 rcases Decidable.em (aw = aw2) with h_aw | h_aw
 rotate_left
 · rw [if_neg h_aw]; simp [h_aw]
 rw [if_pos h_aw]
 rcases Decidable.em (al = al2) with h_al | h_al
 rotate_left
 · rw [if_neg h_al]; simp [h_al]
 rw [if_pos h_al]
 rcases Decidable.em (ae = ae2) with h_ae | h_ae
 rotate_left
 · rw [if_neg h_ae]; simp [h_ae]
 rw [if_pos h_ae]
 rcases Decidable.em (ak = ak2) with h_ak | h_ak
 rotate_left
 · rw [if_neg h_ak]; simp [h_ak]
 rw [if_pos h_ak]
 rcases Decidable.em (bv = bv2) with h_bv | h_bv
 rotate_left
 · rw [if_neg h_bv]; simp [h_bv]
 rw [if_pos h_bv]
 rcases Decidable.em (bw = bw2) with h_bw | h_bw
 rotate_left
 · rw [if_neg h_bw]; simp [h_bw]
 rw [if_pos h_bw]
 rcases Decidable.em (bl = bl2) with h_bl | h_bl
 rotate_left
 · rw [if_neg h_bl]; simp [h_bl]
 rw [if_pos h_bl]
 rcases Decidable.em (be = be2) with h_be | h_be
 rotate_left
 · rw [if_neg h_be]; simp [h_be]
 rw [if_pos h_be]
 rcases Decidable.em (bk = bk2) with h_bk | h_bk
 rotate_left
 · rw [if_neg h_bk]; simp [h_bk]
 rw [if_pos h_bk]
 rcases Decidable.em (tw = tw2) with h_tw | h_tw
 rotate_left
 · rw [if_neg h_tw]; simp [h_tw]
 rw [if_pos h_tw]
 simp [h_av, h_aw, h_al, h_ae, h_ak, h_bv, h_bw, h_bl, h_be, h_bk, h_tw]
set_option maxHeartbeats 4000000 in
theorem neq_en (x y : EnL) (w : World) : (binOp .neq 52 (enV x) (enV y)).run Tryz.prog w = .ok (.bool (!eqE x y)) w := by
 unfold enV j0 j1 j2 j3 j4 j5 j6 j7 j8 j9 j10 eqE
 obtain ⟨t, k, d, ⟨⟨av, aw, al, ae, ak⟩, ⟨bv, bw, bl, be, bk⟩, tw⟩⟩ := x
 obtain ⟨t2, k2, d2, ⟨⟨av2, aw2, al2, ae2, ak2⟩, ⟨bv2, bw2, bl2, be2, bk2⟩, tw2⟩⟩ := y
 dsimp only
 simp only [JtL.mk.injEq, CfL.mk.injEq]
 go_simp
 simp only [Int.natCast_inj]
 rcases Decidable.em (t = t2) with h_t | h_t
 rotate_left
 · rw [if_neg h_t]; simp [h_t]
 rw [if_pos h_t]
 rcases Decidable.em (k = k2) with h_k | h_k
 rotate_left
 · rw [if_neg h_k]; simp [h_k]
 rw [if_pos h_k]
 rcases Decidable.em (d.toList = d2.toList) with h_d | h_d
 rotate_left
 · rw [if_neg h_d]; simp [h_d]
 rw [if_pos h_d]
 rcases Decidable.em (av = av2) with h_av | h_av
 rotate_left
 · rw [if_neg h_av]; simp [h_av]
 rw [if_pos h_av]
 rcases Decidable.em (aw = aw2) with h_aw | h_aw
 rotate_left
 · rw [if_neg h_aw]; simp [h_aw]
 rw [if_pos h_aw]
 rcases Decidable.em (al = al2) with h_al | h_al
 rotate_left
 · rw [if_neg h_al]; simp [h_al]
 rw [if_pos h_al]
 rcases Decidable.em (ae = ae2) with h_ae | h_ae
 rotate_left
 · rw [if_neg h_ae]; simp [h_ae]
 rw [if_pos h_ae]
 rcases Decidable.em (ak = ak2) with h_ak | h_ak
 rotate_left
 · rw [if_neg h_ak]; simp [h_ak]
 rw [if_pos h_ak]
 rcases Decidable.em (bv = bv2) with h_bv | h_bv
 rotate_left
 · rw [if_neg h_bv]; simp [h_bv]
 rw [if_pos h_bv]
 rcases Decidable.em (bw = bw2) with h_bw | h_bw
 rotate_left
 · rw [if_neg h_bw]; simp [h_bw]
 rw [if_pos h_bw]
 rcases Decidable.em (bl = bl2) with h_bl | h_bl
 rotate_left
 · rw [if_neg h_bl]; simp [h_bl]
 rw [if_pos h_bl]
 rcases Decidable.em (be = be2) with h_be | h_be
 rotate_left
 · rw [if_neg h_be]; simp [h_be]
 rw [if_pos h_be]
 rcases Decidable.em (bk = bk2) with h_bk | h_bk
 rotate_left
 · rw [if_neg h_bk]; simp [h_bk]
 rw [if_pos h_bk]
 rcases Decidable.em (tw = tw2) with h_tw | h_tw
 rotate_left
 · rw [if_neg h_tw]; simp [h_tw]
 rw [if_pos h_tw]
 simp [h_t, h_k, h_d, h_av, h_aw, h_al, h_ae, h_ak, h_bv, h_bw, h_bl, h_be, h_bk, h_tw]
end Go.Proofs.YtegnfkbmlalkeaaGreat.kit
namespace Go.Proofs.YtegnfkbmlalkeaaGreat.ref12
open Go Go.RowKit Go.Proofs.YtegnfkbmlalkeaaGreat.kit Go.Proofs.YtegnfkbmlalkeaaGreat.nums Go.Proofs.YtegnfkbmlalkeaaGreat.cf Go.Proofs.YtegnfkbmlalkeaaGreat.lg
set_option linter.unusedVariables false
set_option maxHeartbeats 2000000 in
theorem ralike_any (A : Option Addr) (n c : Nat) (es : List EnL) (A2 : Option Addr) (n2 c2 : Nat) (es2 : List EnL) (w : World) (B B2 : Nat) (hR : RdE w B A n es) (hB : B ≤ w.heap.size) (hR2 : RdE w B2 A2 n2 es2) (hB2 : B2 ≤ w.heap.size) (hn : n ≤ 1099511627776) : Calls Tryz.prog 73 #[.slice A n c, .slice A2 n2 c2] w fun e w' => e = .returned (.bool (eqEs es es2)) ∧ Below w.heap.size w w' := by
 have HR := Lib.hid hR
 have HR2 := Lib.hid hR2
 have HE : Hid (n ≠ n2 → eqEs es es2 = false) := fun h => eqEs_len (by rw [hR.1, hR2.1]; exact h)
 have HD : Hid (∀ (i : Nat) (x y : EnL), es[i]? = some x → es2[i]? = some y → eqEs (es.drop i) (es2.drop i) = (eqE x y && eqEs (es.drop (i + 1)) (es2.drop (i + 1)))) := fun i x y h1 h2 => eqEs_drop h1 h2
 have HZ : Hid (n = n2 → eqEs (es.drop n) (es2.drop n) = true) := fun h => by rw [List.drop_of_length_le (by rw [hR.1]; exact Nat.le_refl _), List.drop_of_length_le (by rw [hR2.1, h]; exact Nat.le_refl _)]; rfl
 have H0 : Hid (eqEs es es2 = eqEs (es.drop 0) (es2.drop 0)) := rfl
 clear hR hR2
 generalize eqEs es es2 = RES at *
 by_cases hne : n = n2
 · subst hne
   have HZ2 := Lib.hid (HZ.out rfl)
   clear HZ HE
   go_enter Tryz.func73, Tryz.ntmps73
   go_wp2_with fail
   go_loopw [5] (fun iv wr => ∃ i : Nat, i ≤ n ∧ iv = .int .i64 (i : Int) ∧ Hid (RES = eqEs (es.drop i) (es2.drop i)) ∧ Hid (Below w.heap.size w wr)) (fun iv _ => n - (intOf iv).toNat)
   case atStart => exact ⟨0, Nat.zero_le _, rfl, H0, Lib.hid (Below.refl _ _)⟩
   case round =>
     obtain ⟨i, hi, rfl, HG, HBr⟩ := hrel
     by_cases hin : i < n
     · obtain ⟨b1, o1, x, rfl, hl1, hx, hA⟩ := (HR.out.on (HBr.out.mono hB) (Nat.le_refl _)).at_ (j := i) hin
       obtain ⟨b2, o2, y, rfl, hl2, hy, hA2⟩ := (HR2.out.on (HBr.out.mono hB2) (Nat.le_refl _)).at_ (j := i) hin
       have c1 := at14 hA
       have c2 := at14 hA2
       have hDx := Lib.hid (HD.out i x y hx hy)
       have hin1 : (i : Int) < (n : Int) := by omega
       have hq := fun w => neq_en x y w
       unfold enV at hq
       clear hA hA2 hx hy HD HZ2
       rcases hxy : eqE x y with _ | _
       · have hFr2 : Hid (RES = false) := by show _ = _; rw [HG.out, hDx.out, hxy]; rfl
         rw [hxy] at hq
         clear HG hDx hxy
         go_wp2_with fail
         go_quiet (fail)
         go_wp2_with fail
         go_ret
         exact ⟨by rw [hFr2.out]; rfl, below_drewN HBr.out _⟩
       · have hFr2 : Hid (RES = eqEs (es.drop (i + 1)) (es2.drop (i + 1))) := by show _ = _; rw [HG.out, hDx.out, hxy]; rfl
         rw [hxy] at hq
         clear HG hDx hxy
         go_wp2_with fail
         go_quiet (fail)
         go_wp2_with fail
         go_roundw
         case rel => exact ⟨i + 1, by omega, by go_num, hFr2, Lib.hid (below_drewN HBr.out _)⟩
         case measure => simp [intOf] <;> omega
     · obtain rfl : i = n := by omega
       have hFr2 : Hid (RES = true) := by show _ = _; rw [HG.out, HZ2.out]
       clear HG HZ2 HD
       go_wp2_with fail
       go_ret
       exact ⟨by rw [hFr2.out]; rfl, HBr.out⟩
 · have HF := Lib.hid (HE.out hne)
   clear HE HZ HD H0
   have hne2 : ((n : Int) != (n2 : Int)) = true := by rw [bne_iff_ne]; omega
   go_enter Tryz.func73, Tryz.ntmps73
   go_wp2_with fail
   go_ret
   exact ⟨by rw [HF.out]; rfl, Below.refl _ _⟩
end Go.Proofs.YtegnfkbmlalkeaaGreat.ref12
namespace Go.Proofs.YtegnfkbmlalkeaaGreat.frame
open Go Go.ChangeShapes Go.WideShapes Go.ChangeAt Go.RowKit Go.Proofs.YtegnfkbmlalkeaaGreat.kit Go.Proofs.YtegnfkbmlalkeaaGreat.nums Go.Proofs.YtegnfkbmlalkeaaGreat.cf Go.Proofs.YtegnfkbmlalkeaaGreat.lg
set_option linter.unusedVariables false
theorem long4 {α : Type} (l : List α) (h : l.length = 4) : ∃ a0 a1 a2 a3, l = [a0, a1, a2, a3] := by
 match l, h with
 | [a0, a1, a2, a3], _ => exact ⟨a0, a1, a2, a3, rfl⟩
theorem long14 {α : Type} (l : List α) (h : l.length = 14) : ∃ a0 a1 a2 a3 a4 a5 a6 a7 a8 a9 a10 a11 a12 a13, l = [a0, a1, a2, a3, a4, a5, a6, a7, a8, a9, a10, a11, a12, a13] := by
 match l, h with
 | [a0, a1, a2, a3, a4, a5, a6, a7, a8, a9, a10, a11, a12, a13], _ => exact ⟨a0, a1, a2, a3, a4, a5, a6, a7, a8, a9, a10, a11, a12, a13, rfl⟩
theorem textc_of_trod {H : Type} {enc : TypeId × Value → H} {W : World} {n : Nat} {v : Value} {y : DataW H × List MemPlace} (h : DataW.trod enc Tryz.prog W 0 (fun _ => true) true n 9 [v] = some y) : ∃ z, v = .string z := by
 obtain ⟨T, h2, _, hsz⟩ := DataW.trod_string Tryz.underlying9 h
 simp at h2
 exact ⟨T, h2⟩
end Go.Proofs.YtegnfkbmlalkeaaGreat.frame
namespace Go.Proofs.YtegnfkbmlalkeaaGreat.frame
open Go Go.ChangeShapes Go.WideShapes Go.ChangeAt Go.RowKit Go.Proofs.YtegnfkbmlalkeaaGreat.kit Go.Proofs.YtegnfkbmlalkeaaGreat.nums
set_option linter.unusedVariables false
set_option maxRecDepth 100000 in
theorem rdstr_of_trod {H : Type} {enc : TypeId × Value → H} {W : World} {A : Option Addr} {len cap : Nat} {d : DataW H} {p : List MemPlace}
   (h : DataW.Trod enc Tryz.prog W 0 (fun _ => true) true 60 (.slice A len cap) d p) : ∃ xs : List ByteArray, RdV W W.heap.size A len (xs.map Value.string) ∧ len ≤ cap ∧ cap ≤ maxLen := by
 obtain ⟨fuel, hf⟩ := h
 rcases DataW.trod_slice Tryz.underlying60 hf with ⟨hcs, _⟩ | ⟨a, l, c, elems, rest, n, _, hcs, _, _, hl, hm, hlen, hel, _⟩
 · simp [Value.cells] at hcs
   obtain ⟨rfl, rfl, rfl⟩ := hcs
   exact ⟨[], RdV.nil _ _ _, Nat.le_refl _, by unfold maxLen; omega⟩
 · simp [Value.cells] at hcs
   obtain ⟨rfl, rfl, rfl⟩ := hcs
   have hc : Tryz.prog.cellsOf 9 = 1 := by kernel_rfl
   have each : ∀ i, i < len → ∃ x : ByteArray, W.cell? (a.add i) = some (.string x) ∧ True := fun i hi => by
     have hE := hel i hi
     rw [hc] at hE
     have hy : elems[i]? = some elems[i] := List.getElem?_eq_getElem (by omega)
     rw [hy, Option.bind_eq_some_iff] at hE
     obtain ⟨c1, hc1, hy1⟩ := hE
     obtain ⟨_, h6, hcell⟩ := World.cells?_some hc1
     obtain ⟨c, rfl⟩ : ∃ c, c1 = [c] := List.length_eq_one_iff.1 h6
     obtain ⟨x, rfl⟩ := textc_of_trod hy1
     have h0 := hcell 0 (by omega)
     rw [Nat.mul_one] at h0
     exact ⟨x, by simpa [Addr.add] using h0, trivial⟩
   obtain ⟨L, hL, hP⟩ := gather len each
   refine ⟨L, ⟨by rw [List.length_map, hL], fun hp => ?_⟩, hl, hm⟩
   obtain ⟨x0, h00, _⟩ := each 0 hp
   obtain ⟨b, o, spot⟩ := a
   have hspot : spot = none := by simpa [Addr.add] using World.cell?_spot h00
   subst hspot
   refine ⟨b, o, rfl, World.block_lt_of_cell? W (a := ⟨b, o, none⟩) (by simpa [Addr.add] using h00), fun j hj => ?_⟩
   have hx : L[j]? = some (L[j]'(by rw [hL]; exact hj)) := List.getElem?_eq_getElem _
   have := (hP j _ hx).1
   rw [Addr.add_lit] at this
   rw [this, List.getElem?_map, hx]; rfl
end Go.Proofs.YtegnfkbmlalkeaaGreat.frame
