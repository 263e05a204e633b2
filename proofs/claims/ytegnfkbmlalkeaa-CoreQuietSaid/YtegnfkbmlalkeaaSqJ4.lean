/- The landed core: New. Conditions: none. -/
import Derived.Deep.RegionHeld3
import Derived.Deep.Cut
import Derived.Lib.Hide
import Derived.BigQuiet
import Derived.Test.YtegnfkbmlalkeaaSqKitCl
import Derived.Test.YtegnfkbmlalkeaaSqJ3
import Derived.Test.YtegnfkbmlalkeaaSqKitLg
import Derived.Test.YtegnfkbmlalkeaaSqJ0
import Derived.Test.YtegnfkbmlalkeaaSqConfJ
import Derived.Test.YtegnfkbmlalkeaaSqJ1
import Derived.Test.YtegnfkbmlalkeaaSqEntC
import Derived.Test.YtegnfkbmlalkeaaSqSetsI
import Derived.Test.YtegnfkbmlalkeaaSqEntJ
import Derived.Test.YtegnfkbmlalkeaaSqEntD
namespace Go.Proofs.Ytegnfkbmlalkeaa.kit
open Go Go.RowKit Go.Proofs.Ytegnfkbmlalkeaa.kit Go.Proofs.Ytegnfkbmlalkeaa.nums Go.Proofs.Ytegnfkbmlalkeaa.cf Go.Proofs.Ytegnfkbmlalkeaa.lg Go.Proofs.Ytegnfkbmlalkeaa.cr
set_option linter.unusedVariables false
theorem zeroFv : (Try.prog.info? 28).map (·.zero) = some (some (.agg (cfC zeroC).toArray)) := by kernel_rfl
section
variable {w : World} {ops : Array Oper} {rest : List Oper} {o : Oper} {a : Act} {Q : Exit → Act → World → Prop} {g : Nat} {E : TypeId}
theorem al_F (hgd : o.guard = none) (ho : o.op = .alloc 28)
   (h : ∀ w', Blk 28 w' w.heap.size (cfC zeroC) → Below w.heap.size w w' → Hid (w'.heap.size = w.heap.size + 1) → wpList Try.prog ops Q rest (a.put o.dst (.pointer (some ⟨w.heap.size, 0, none⟩))) w') : wpList Try.prog ops Q (o :: rest) a w :=
 wpList_al hgd _ ho _ zeroFv (cfC zeroC) rfl h
theorem bd_f3 {q0 q1 q2 : Operand} (s : Nat) (x y : Int) (ho : o.op = .build 28 #[(0, q0), (3, q1), (4, q2)]) (hw : Region.wanted o (yielded ops a.tmps) = true) (h0 : a.eval q0 = .int .u16 (s : Int)) (h1 : a.eval q1 = .int .i64 x) (h2 : a.eval q2 = .int .i64 y)
   (h : wpList Try.prog ops Q rest (a.put o.dst (cfV ⟨s, 0, 0, x, y⟩)) w) : wpList Try.prog ops Q (o :: rest) a w := by
 refine wpList_val hw ?_ h
 have hr : (Instr.build 28 #[(0, .int .u16 (s : Int)), (3, .int .i64 x), (4, .int .i64 y)]).run Try.prog w = .ok (cfV ⟨s, 0, 0, x, y⟩) w := by kernel_rfl
 unfold execOp
 simp [ho, h0, h1, h2, hr]
theorem bd_j1 {q0 : Operand} (c : CfL) (ho : o.op = .build 30 #[(0, q0)]) (hw : Region.wanted o (yielded ops a.tmps) = true) (h0 : a.eval q0 = cfV c)
   (h : wpList Try.prog ops Q rest (a.put o.dst (jV ⟨c, zeroC, false⟩)) w) : wpList Try.prog ops Q (o :: rest) a w := by
 refine wpList_val hw ?_ h
 have hr : (Instr.build 30 #[(0, cfV c)]).run Try.prog w = .ok (jV ⟨c, zeroC, false⟩) w := by kernel_rfl
 unfold execOp
 simp [ho, h0, hr]
theorem bd_vot {q0 q1 q2 q3 q8 : Operand} (k f t m : Int) (y : Bool) (ho : o.op = .build 50 #[(0, q0), (1, q1), (2, q2), (3, q3), (8, q8)]) (hw : Region.wanted o (yielded ops a.tmps) = true) (h0 : a.eval q0 = .int .i64 k) (h1 : a.eval q1 = .int .i64 f) (h2 : a.eval q2 = .int .i64 t) (h3 : a.eval q3 = .int .i64 m) (h8 : a.eval q8 = .bool y)
   (h : wpList Try.prog ops Q rest (a.put o.dst (msV { zM with k := k, f := f, t := t, m := m, y := y } (.slice none 0 0))) w) : wpList Try.prog ops Q (o :: rest) a w := by
 refine wpList_val hw ?_ h
 have hr : (Instr.build 50 #[(0, .int .i64 k), (1, .int .i64 f), (2, .int .i64 t), (3, .int .i64 m), (8, .bool y)]).run Try.prog w = .ok (msV { zM with k := k, f := f, t := t, m := m, y := y } (.slice none 0 0)) w := by kernel_rfl
 unfold execOp
 simp [ho, h0, h1, h2, h3, h8, hr]
end
def shpC (a b c e : Nat) : List Value := [.int .u8 (a : Int), .int .u8 (b : Int), .int .u8 (c : Int), .int .u8 (e : Int)]
def shpV (a b c e : Nat) : Value := .agg (shpC a b c e).toArray
theorem box_S {w : World} {ops : Array Oper} {rest : List Oper} {o : Oper} {a : Act} {Q : Exit → Act → World → Prop} (hgd : o.guard = none) (p : Operand) (ho : o.op = .box 23 p) (x y z e : Nat) (hx : a.eval p = shpV x y z e)
   (h : ∀ w', Blk 23 w' w.heap.size (shpC x y z e) → Below w.heap.size w w' → Hid (w'.heap.size = w.heap.size + 1) → wpList Try.prog ops Q rest (a.put o.dst (.pointer (some ⟨w.heap.size, 0, none⟩))) w') : wpList Try.prog ops Q (o :: rest) a w :=
 wpList_box hgd _ p ho _ hx h
theorem sizeS (w : World) : (sizeOf 23).run Try.prog w = .ok 4 w := by
 have h : (Try.prog.info? 23).map (·.size) = some 4 := by kernel_rfl
 cases hq : Try.prog.info? 23 with
 | none => simp [hq] at h
 | some i =>
   have hs : i.size = 4 := by simpa [hq] using h
   simp [sizeOf, typeInfo, hq, hs]
theorem aggS (w : World) : (isAgg 23).run Try.prog w = .ok true w := by
 simp [isAgg, run_underlying Try.underlying23]
theorem lo_S {w : World} {ops : Array Oper} {rest : List Oper} {o : Oper} {a : Act} {Q : Exit → Act → World → Prop} {g x y z e : Nat} {E : TypeId} (p : Operand) (ho : o.op = .load 23 p) (hw : Region.wanted o (yielded ops a.tmps) = true) (hp : a.eval p = .pointer (some ⟨g, 0, none⟩)) (hK : Blk E w g (shpC x y z e))
   (h : wpList Try.prog ops Q rest (a.put o.dst (shpV x y z e)) w) : wpList Try.prog ops Q (o :: rest) a w :=
 wpList_ldw hw _ p ho g (shpC x y z e) E hp hK (aggS _) (sizeS _) h
end Go.Proofs.Ytegnfkbmlalkeaa.kit
namespace Go.Proofs.Ytegnfkbmlalkeaa.cor
open Go Go.RowKit Go.Proofs.Ytegnfkbmlalkeaa.kit Go.Proofs.Ytegnfkbmlalkeaa.nums Go.Proofs.Ytegnfkbmlalkeaa.cf Go.Proofs.Ytegnfkbmlalkeaa.lg Go.Proofs.Ytegnfkbmlalkeaa.cr Go.Proofs.Ytegnfkbmlalkeaa.se
set_option linter.unusedVariables false
def wiB (n a m : Int) : Bool := decide (a ≤ n) && decide (n ≤ m)
set_option maxHeartbeats 2000000 in
set_option maxRecDepth 10000 in
theorem within_any (n a m : Int) (w : World) : Calls Try.prog 47 #[.int .i64 n, .int .i64 a, .int .i64 m] w fun e w' => e = .returned (.bool (wiB n a m)) ∧ w = w' := by
 go_enter Try.func47, Try.ntmps47
 by_cases h1 : a ≤ n
 · by_cases h2 : n ≤ m
   · have e := Lib.hid (show wiB n a m = true by unfold wiB; rw [decide_eq_true h1, decide_eq_true h2]; rfl)
     go_wp2
     go_ret
     exact ⟨by rw [e.out]; rfl, rfl⟩
   · have e := Lib.hid (show wiB n a m = false by unfold wiB; rw [decide_eq_true h1, decide_eq_false h2]; rfl)
     go_wp2
     go_ret
     exact ⟨by rw [e.out]; rfl, rfl⟩
 · have e := Lib.hid (show wiB n a m = false by unfold wiB; rw [decide_eq_false h1]; rfl)
   go_wp2
   go_ret
   exact ⟨by rw [e.out]; rfl, rfl⟩
set_option maxHeartbeats 2000000 in
set_option maxRecDepth 10000 in
theorem isnode_any (n : Int) (w : World) : Calls Try.prog 46 #[.int .i64 n] w fun e w' => e = .returned (.bool (nodeB n)) ∧ w = w' := by
 go_enter Try.func46, Try.ntmps46
 go_wp2_with fail
 refine (within_any n 1 9 w).mono ?_
 rintro e w1 ⟨rfl, rfl⟩
 go_wp2_with fail
 go_ret
 exact ⟨rfl, rfl⟩
set_option maxHeartbeats 2000000 in
set_option maxRecDepth 10000 in
theorem pat_any (id : Int) (w : World) (h : 0 ≤ id ∧ id ≤ 1000000) : Calls Try.prog 11 #[.int .i64 id] w fun e w' => e = .returned (.int .i64 (patF id)) ∧ w = w' := by
 have h1 : 12 + IntKind.i64.wrap (4 * id) = 12 + 4 * id := by rw [wrap_sm (by omega) (by omega)]
 have h2 : IntKind.i64.wrap (4 * id) = 4 * id := by rw [wrap_sm (by omega) (by omega)]
 have h3 : IntKind.i64.wrap (12 + 4 * id) = 12 + 4 * id := by rw [wrap_sm (by omega) (by omega)]
 go_enter Try.func11, Try.ntmps11
 go_wp2
 go_ret
 exact ⟨rfl, rfl⟩
set_option maxHeartbeats 2000000 in
set_option maxRecDepth 10000 in
theorem bounded_any (v : Int) (w : World) : Calls Try.prog 23 #[.int .i64 v] w fun e w' => e = .returned (.int .i64 (bouF v)) ∧ w = w' := by
 go_enter Try.func23, Try.ntmps23
 go_wp2
 all_goals (go_ret; refine ⟨?_, rfl⟩; first | exact congrArg (fun z => Ending.returned (.int .i64 z)) (by unfold bouF; omega) | (simp; unfold bouF; omega))
set_option maxHeartbeats 2000000 in
set_option maxRecDepth 10000 in
theorem stepDown_any (c : CoL) (A : Option Addr) (n p : Nat) (w : World) : Calls Try.prog 34 #[crV c (.slice A n p)] w fun e w' => e = .returned (crV (yieC c) (.slice A n p)) ∧ Below w.heap.size w w' := by
 go_enter Try.func34, Try.ntmps34
 have LEkC : Hid (w.heap.size ≤ w.heap.size) := Nat.le_refl _
 go_wp2_with (first | refine box_C rfl _ rfl c (.slice A n p) rfl ?_ | fail)
 intro y1 kC e1 s1
 clear s1
 have HB := e1
 clear e1
 have LTkCkO := Lib.hid kC.lt
 have LEkO : Hid (w.heap.size ≤ y1.heap.size) := HB.size
 go_wp2_with (first | refine al_C rfl rfl ?_ | (first | refine lo_Cj kC ?_ | refine lo_cLj kC ?_ | refine lo_cJj kC ?_))
 intro y2 kO e2 s2
 clear s2
 replace kO : Blk _ _ _ (crC zC (.slice none 0 0)) := kO
 replace HB := bt HB e2
 replace kC := kC.b e2
 clear e2
 generalize y1.heap.size = gkO at *
 have df := fun i => kC.frozen i
 have cR1 : _ = some _ := kC.cell 1
 have cR4 : _ = some _ := kC.cell 4
 have cR5 : _ = some _ := kC.cell 5
 go_upto_region 2 with (fail)
 clear df cR1 cR4 cR5
 have kC2 : Blk 39 _ w.heap.size (crC { c with ro := 0 } (.slice A n p)) := kC.set_ 1 (.int .i64 0)
 have pO := put_set y2 w.heap.size (1) (.int .i64 0)
 generalize (y2.setCell ⟨w.heap.size, 1, none⟩ (.int .i64 0)) = y3 at *
 replace kO := kO.put pO (Nat.ne_of_gt LTkCkO.out)
 replace HB := pO.below _ _ HB LEkC.out
 clear kC
 have kC := kC2
 clear kC2 pO
 have kC2 : Blk 39 _ w.heap.size (crC { c with ro := 0, le := 0 } (.slice A n p)) := kC.set_ 4 (.int .i64 0)
 have pO := put_set y3 w.heap.size (4) (.int .i64 0)
 generalize (y3.setCell ⟨w.heap.size, 4, none⟩ (.int .i64 0)) = y4 at *
 replace kO := kO.put pO (Nat.ne_of_gt LTkCkO.out)
 replace HB := pO.below _ _ HB LEkC.out
 clear kC
 have kC := kC2
 clear kC2 pO
 have kC2 : Blk 39 _ w.heap.size (crC (yieC c) (.slice A n p)) := kC.set_ 5 (.int .i64 0)
 have pO := put_set y4 w.heap.size (5) (.int .i64 0)
 generalize (y4.setCell ⟨w.heap.size, 5, none⟩ (.int .i64 0)) = y5 at *
 replace kO := kO.put pO (Nat.ne_of_gt LTkCkO.out)
 replace HB := pO.below _ _ HB LEkC.out
 clear kC
 have kC := kC2
 clear kC2 pO
 go_wp2_with (first | refine st_C rfl _ _ rfl (yieC c) A n p rfl rfl _ kO rfl ?_ | (first | refine lo_Cj kC ?_ | refine lo_cLj kC ?_ | refine lo_cJj kC ?_ | refine lo_Cj kO ?_ | refine lo_cLj kO ?_ | refine lo_cJj kO ?_))
 intro y6 kO2 pO
 replace kC := kC.put pO (Nat.ne_of_lt LTkCkO.out)
 replace HB := pO.below _ _ HB LEkO.out
 clear kO
 have kO := kO2
 clear kO2 pO
 go_wp2_with (first | refine lo_Cj kC ?_ | refine lo_cLj kC ?_ | refine lo_cJj kC ?_ | refine lo_Cj kO ?_ | refine lo_cLj kO ?_ | refine lo_cJj kO ?_)
 (try simp only [Exit.inBlock, Exit.then])
 refine bodyPost_ret (res1 Try.results34 rfl (aggC _) (sizeC _) (ldCv kO)) rfl ?_
 exact ⟨rfl, HB⟩
theorem bd_let {w : World} {ops : Array Oper} {rest : List Oper} {o : Oper} {a : Act} {Q : Exit → Act → World → Prop} {q0 q1 q2 q3 : Operand} (k f t m : Int) (ho : o.op = .build 50 #[(0, q0), (1, q1), (2, q2), (3, q3)]) (hw : Region.wanted o (yielded ops a.tmps) = true) (h0 : a.eval q0 = .int .i64 k) (h1 : a.eval q1 = .int .i64 f) (h2 : a.eval q2 = .int .i64 t) (h3 : a.eval q3 = .int .i64 m)
   (h : wpList Try.prog ops Q rest (a.put o.dst (msV { zM with k := k, f := f, t := t, m := m } (.slice none 0 0))) w) : wpList Try.prog ops Q (o :: rest) a w := by
 refine wpList_val hw ?_ h
 have hr : (Instr.build 50 #[(0, .int .i64 k), (1, .int .i64 f), (2, .int .i64 t), (3, .int .i64 m)]).run Try.prog w = .ok (msV { zM with k := k, f := f, t := t, m := m } (.slice none 0 0)) w := by kernel_rfl
 unfold execOp
 simp [ho, h0, h1, h2, h3, hr]
def letM (c : CoL) (k t : Int) : MsL := { zM with k := k, f := c.id, t := t, m := c.tm }
set_option maxHeartbeats 2000000 in
set_option maxRecDepth 10000 in
theorem letter_any (c : CoL) (A : Option Addr) (n p : Nat) (k t : Int) (w : World) : Calls Try.prog 43 #[crV c (.slice A n p), .int .i64 k, .int .i64 t] w fun e w' => e = .returned (msV (letM c k t) (.slice none 0 0)) ∧ Below w.heap.size w w' := by
 go_enter Try.func43, Try.ntmps43
 go_wp2_with (first | refine box_C rfl _ rfl c (.slice A n p) rfl ?_ | fail)
 intro y1 kC e1 s1
 clear s1
 have HB := e1
 clear e1
 have LTkCkO := Lib.hid kC.lt
 have LEkO : Hid (w.heap.size ≤ y1.heap.size) := HB.size
 go_wp2_with (first | refine al_M rfl rfl ?_ | (first | refine lo_Cj kC ?_ | refine lo_cLj kC ?_ | refine lo_cJj kC ?_))
 intro y2 kO e2 s2
 clear s2
 replace kO : Blk _ _ _ (msC zM (.slice none 0 0)) := kO
 replace HB := bt HB e2
 replace kC := kC.b e2
 clear e2
 generalize y1.heap.size = gkO at *
 have c0 : _ = some (Value.int .i64 c.id) := kC.cell 0
 have c2 : _ = some (Value.int .i64 c.tm) := kC.cell 2
 go_wp2_with (first | refine st_M rfl _ _ rfl (letM c k t) none 0 0 rfl rfl _ kO rfl ?_ | (first | refine lo_Cj kC ?_ | refine lo_cLj kC ?_ | refine lo_cJj kC ?_ | refine lo_Mj kO ?_ | refine lo_mJj kO ?_ | refine bd_let k c.id t c.tm rfl rfl rfl rfl rfl rfl ?_))
 intro y3 kO2 pO
 replace kC := kC.put pO (Nat.ne_of_lt LTkCkO.out)
 replace HB := pO.below _ _ HB LEkO.out
 clear kO
 have kO := kO2
 clear kO2 pO
 clear c0 c2
 go_wp2_with (first | refine lo_Cj kC ?_ | refine lo_cLj kC ?_ | refine lo_cJj kC ?_ | refine lo_Mj kO ?_ | refine lo_mJj kO ?_)
 (try simp only [Exit.inBlock, Exit.then])
 refine bodyPost_ret (res1 Try.results43 rfl (aggM _) (sizeM _) (ldMv kO)) rfl ?_
 exact ⟨rfl, HB⟩
end Go.Proofs.Ytegnfkbmlalkeaa.cor
namespace Go.Proofs.Ytegnfkbmlalkeaa.cor
open Go Go.RowKit Go.Proofs.Ytegnfkbmlalkeaa.kit Go.Proofs.Ytegnfkbmlalkeaa.nums Go.Proofs.Ytegnfkbmlalkeaa.cf Go.Proofs.Ytegnfkbmlalkeaa.lg Go.Proofs.Ytegnfkbmlalkeaa.cr Go.Proofs.Ytegnfkbmlalkeaa.se
set_option linter.unusedVariables false
set_option maxHeartbeats 2000000 in
set_option maxRecDepth 10000 in
theorem holders_any (c : CoL) (A : Option Addr) (n p : Nat) (i : Int) (w : World) : Calls Try.prog 91 #[crV c (.slice A n p), .int .i64 i] w fun e w' => e = .returned (.int .u16 ((hasC c i : Nat) : Int)) ∧ Below w.heap.size w w' := by
 go_enter Try.func91, Try.ntmps91
 go_wp2_with (first | go_skip | refine box_C rfl _ rfl c (.slice A n p) rfl ?_ | fail)
 intro y1 kC e1 s1
 clear s1
 have HB := e1
 clear e1
 have BkC := Lib.hid kC
 clear kC
 have BH := Lib.hid HB
 clear HB
 go_wp2_with go_skip
 go_loopw [5, 6] (fun sv nv wr => ∃ k : Nat, k ≤ 9 ∧ sv = .int .u16 (hasTo c i k : Int) ∧ nv = .int .i64 ((k + 1 : Nat) : Int) ∧ Hid (Below y1.heap.size y1 wr)) (fun _ nv _ => 10 - (intOf nv).toNat)
 case atStart => exact ⟨0, by omega, rfl, rfl, Lib.hid (Below.refl _ _)⟩
 case round =>
   obtain ⟨k, hk, rfl, rfl, HY⟩ := hrel
   by_cases hk9 : k < 9
   · skip
     have kC := BkC.out.below HY.out BkC.out.lt
     have HB := HY.out
     have ck : ((k + 1 : Nat) : Int) ≤ 9 := by omega
     have c10 : ((k + 1 : Nat) : Int) < 10 := by omega
     have c00 : (0 : Int) ≤ ((k + 1 : Nat) : Int) := by omega
     have wk : IntKind.i64.wrap (((k + 1 : Nat) : Int) + 1) = ((k + 1 + 1 : Nat) : Int) := by rw [wrap_sm (by omega) (by omega)]; omega
     have cR := cr_mt kC (show k + 1 < 10 by omega)
     have hs := ref13.has_lt c i k
     have HS : Hid (hasTo c i (k + 1) = if i ≤ c.mt (k + 1) then withF (hasTo c i k) ((k + 1 : Nat) : Int) else hasTo c i k) := rfl
     obtain ⟨t2, ht2⟩ : ∃ z, hasTo c i (k + 1) = z := ⟨_, rfl⟩
     rw [ht2] at HS
     have HT : Hid (hasTo c i (k + 1) = t2) := ht2
     clear ht2
     generalize hasTo c i k = t1 at *
     obtain ⟨j, hj⟩ : ∃ j : Nat, j = k + 1 := ⟨_, rfl⟩
     rw [← hj] at ck c10 c00 wk cR HS HT ⊢
     replace hj := Lib.hid hj
     obtain ⟨mv, hmv⟩ : ∃ z, c.mt j = z := ⟨_, rfl⟩
     rw [hmv] at cR HS
     clear hmv
     by_cases hle : i ≤ mv
     · skip
       have ht : Hid (t2 = withF t1 (j : Int)) := by show _ = _; rw [HS.out, if_pos hle]
       have hge : mv ≥ i := hle
       clear HS
       go_wp2_with (first | go_skip | refine lo_Cj kC ?_ | refine lo_cLj kC ?_ | refine lo_cJj kC ?_)
       refine (seti.with_any t1 (j : Int) wr hs (by omega) (by omega)).mono ?_
       rintro e y51 ⟨rfl, hY⟩
       replace HB := bt HB hY
       replace kC := kC.b hY
       clear hY
       go_wp2_with (first | go_skip | refine lo_Cj kC ?_ | refine lo_cLj kC ?_ | refine lo_cJj kC ?_)
       go_roundw
       case rel => exact ⟨j, by have := hj.out; omega, by rw [HT.out, ht.out], by rfl, Lib.hid HB⟩
       case measure => have := hj.out; simp only [intOf]; omega
     · skip
       have ht : Hid (t2 = t1) := by show _ = _; rw [HS.out, if_neg hle]
       have hge : ¬ mv ≥ i := hle
       clear HS
       go_wp2_with (first | go_skip | refine lo_Cj kC ?_ | refine lo_cLj kC ?_ | refine lo_cJj kC ?_)
       go_roundw
       case rel => exact ⟨j, by have := hj.out; omega, by rw [HT.out, ht.out], by rfl, Lib.hid HB⟩
       case measure => have := hj.out; simp only [intOf]; omega
   · skip
     have kC := BkC.out.below HY.out BkC.out.lt
     have HB := HY.out
     obtain rfl : k = 9 := by omega
     have ck : ¬ (((9 + 1 : Nat) : Int) ≤ 9) := by omega
     go_wp2_with go_skip
     go_ret
     exact ⟨rfl, BH.out.trans (HB.mono BH.out.size)⟩
set_option maxHeartbeats 2000000 in
set_option maxRecDepth 10000 in
theorem least_any (c : CoL) (A : Option Addr) (n p : Nat) (j : JtL) (w : World) (B : Nat) (hR : RdE w B A n c.lg.es) (hB : B ≤ w.heap.size) (hp : n ≤ p) (hf : Fit c.lg) (hj : j.ok) : Calls Try.prog 78 #[crV c (.slice A n p), jV j] w fun e w' => e = .returned (.int .i64 (lmTo c j 9)) ∧ Below w.heap.size w w' := by
 have HJ := Lib.hid hj
 have HF := Lib.hid hf
 have hlen := Lib.hid hR.len
 clear hj hf
 have R0 := hR.more hB
 clear hR hB
 go_enter Try.func78, Try.ntmps78
 go_wp2_with (first | go_skip | refine box_C rfl _ rfl c (.slice A n p) rfl ?_ | fail)
 intro y1 kC e1 s1
 clear s1
 have HB := e1
 replace R0 := R0.on e1 e1.size
 clear e1
 go_wp2_with (first | go_skip | refine box_J rfl _ rfl j rfl ?_ | (first | refine lo_Cj kC ?_ | refine lo_cLj kC ?_ | refine lo_cJj kC ?_))
 intro y2 kJ e2 s2
 clear s2
 replace HB := bt HB e2
 replace kC := kC.b e2
 replace R0 := R0.on e2 e2.size
 clear e2
 generalize y1.heap.size = gkJ at *
 go_wp2_with (first | go_skip | refine lo_Cj kC ?_ | refine lo_cLj kC ?_ | refine lo_cJj kC ?_ | refine lo_Jj kJ ?_)
 refine (enti.last_any c.lg A n p y2 hlen.out HF.out).mono ?_
 rintro e y3 ⟨rfl, hY⟩
 replace HB := bt HB hY
 replace kC := kC.b hY
 replace kJ := kJ.b hY
 replace R0 := R0.on hY hY.size
 clear hY
 have BkC := Lib.hid kC
 clear kC
 have BkJ := Lib.hid kJ
 clear kJ
 have BR0 := Lib.hid R0
 clear R0
 have BH := Lib.hid HB
 clear HB
 go_wp2_with go_skip
 go_loopw [5, 6] (fun sv nv wr => ∃ k : Nat, k ≤ 9 ∧ sv = .int .i64 (lmTo c j k) ∧ nv = .int .i64 ((k + 1 : Nat) : Int) ∧ Hid (Below y3.heap.size y3 wr)) (fun _ nv _ => 10 - (intOf nv).toNat)
 case atStart => exact ⟨0, by omega, rfl, rfl, Lib.hid (Below.refl _ _)⟩
 case round =>
   obtain ⟨k, hk, rfl, rfl, HY⟩ := hrel
   by_cases hk9 : k < 9
   · skip
     have kC := BkC.out.below HY.out BkC.out.lt
     have kJ := BkJ.out.below HY.out BkJ.out.lt
     have R0 := BR0.out.on HY.out HY.out.size
     have HB := HY.out
     have ck : ((k + 1 : Nat) : Int) ≤ 9 := by omega
     have c10 : ((k + 1 : Nat) : Int) < 10 := by omega
     have c00 : (0 : Int) ≤ ((k + 1 : Nat) : Int) := by omega
     have wk : IntKind.i64.wrap (((k + 1 : Nat) : Int) + 1) = ((k + 1 + 1 : Nat) : Int) := by rw [wrap_sm (by omega) (by omega)]; omega
     have cR := cr_mt kC (show k + 1 < 10 by omega)
     have HS : Hid (lmTo c j (k + 1) = if ledF j ((k + 1 : Nat) : Int) = true then min (lmTo c j k) (c.mt (k + 1)) else lmTo c j k) := rfl
     obtain ⟨t2, ht2⟩ : ∃ z, lmTo c j (k + 1) = z := ⟨_, rfl⟩
     rw [ht2] at HS
     have HT : Hid (lmTo c j (k + 1) = t2) := ht2
     clear ht2
     generalize lmTo c j k = t1 at *
     obtain ⟨q, hq⟩ : ∃ q : Nat, q = k + 1 := ⟨_, rfl⟩
     rw [← hq] at ck c10 c00 wk cR HS HT ⊢
     replace hq := Lib.hid hq
     obtain ⟨mv, hmv⟩ : ∃ z, c.mt q = z := ⟨_, rfl⟩
     rw [hmv] at HS
     clear cR
     replace hmv := Lib.hid hmv
     go_wp2_with (first | go_skip | refine lo_Cj kC ?_ | refine lo_cLj kC ?_ | refine lo_cJj kC ?_ | refine lo_Jj kJ ?_)
     have CC := confi.leads_any j (q : Int) wr HJ.out (by omega) (by omega)
     obtain ⟨lb, hlb⟩ : ∃ z, ledF j (q : Int) = z := ⟨_, rfl⟩
     rw [hlb] at CC HS
     clear hlb
     refine (CC).mono ?_
     rintro e y51 ⟨rfl, hY⟩
     replace HB := bt HB hY
     replace kC := kC.b hY
     replace kJ := kJ.b hY
     replace R0 := R0.on hY hY.size
     clear hY
     clear CC
     skip
     rcases lb with _ | _
     · skip
       have ht : Hid (t2 = t1) := by show _ = _; rw [HS.out, if_neg (by decide)]
       clear HS
       go_wp2_with go_skip
       go_roundw
       case rel => exact ⟨q, by have := hq.out; omega, by rw [HT.out, ht.out], by rfl, Lib.hid HB⟩
       case measure => have := hq.out; simp only [intOf]; omega
     · skip
       obtain ⟨mn, hmn⟩ : ∃ z, min t1 mv = z := ⟨_, rfl⟩
       have ht : Hid (t2 = mn) := by show _ = _; rw [HS.out, if_pos rfl, hmn]
       clear HS
       replace hmn := Lib.hid hmn
       have hq9 : q < 10 := by have := hq.out; omega
       have cR : y51.cell? ⟨w.heap.size, 35 + q, none⟩ = some (.int .i64 mv) := by rw [← hmv.out]; exact cr_mt kC hq9
       go_wp2_with go_skip
       go_roundw
       case rel => exact ⟨q, by have := hq.out; omega, by rw [HT.out, ht.out]; exact congrArg (Value.int .i64) (by have := hmn.out; first | (split <;> omega) | omega), by rfl, Lib.hid HB⟩
       case measure => have := hq.out; simp only [intOf]; omega
   · skip
     have kC := BkC.out.below HY.out BkC.out.lt
     have kJ := BkJ.out.below HY.out BkJ.out.lt
     have R0 := BR0.out.on HY.out HY.out.size
     have HB := HY.out
     obtain rfl : k = 9 := by omega
     have ck : ¬ (((9 + 1 : Nat) : Int) ≤ 9) := by omega
     go_wp2_with go_skip
     go_ret
     exact ⟨rfl, BH.out.trans (HB.mono BH.out.size)⟩
end Go.Proofs.Ytegnfkbmlalkeaa.cor
namespace Go.Proofs.Ytegnfkbmlalkeaa.cor
open Go Go.RowKit Go.Proofs.Ytegnfkbmlalkeaa.kit Go.Proofs.Ytegnfkbmlalkeaa.nums Go.Proofs.Ytegnfkbmlalkeaa.cf Go.Proofs.Ytegnfkbmlalkeaa.lg Go.Proofs.Ytegnfkbmlalkeaa.cr Go.Proofs.Ytegnfkbmlalkeaa.se
set_option linter.unusedVariables false
theorem cno_hit {b : Int} {es : List EnL} {k : Nat} {x : EnL} (hx : es[k]? = some x) (h : x.k = 2) : cnoL b es (k + 1) = b + 1 + (k : Int) := by
 show (if (es[k]?).map (·.k) = some 2 then b + 1 + (k : Int) else cnoL b es k) = _
 rw [hx]; exact if_pos (by rw [Option.map_some, h])
theorem cno_miss {b : Int} {es : List EnL} {k : Nat} {x : EnL} (hx : es[k]? = some x) (h : ¬ x.k = 2) : cnoL b es (k + 1) = cnoL b es k := by
 show (if (es[k]?).map (·.k) = some 2 then b + 1 + (k : Int) else cnoL b es k) = _
 rw [hx]; exact if_neg (by rw [Option.map_some]; intro e; exact h (Option.some.inj e))
set_option maxHeartbeats 2000000 in
set_option maxRecDepth 10000 in
theorem confAt_any (L : LgL) (A : Option Addr) (n p : Nat) (w : World) (B : Nat) (hR : RdE w B A n L.es) (hB : B ≤ w.heap.size) (hf : Fit L) : Calls Try.prog 79 #[lgV L (.slice A n p)] w fun e w' => e = .returned (.int .i64 (cnoF L)) ∧ Below w.heap.size w w' := by
 have R0 := hR.more hB
 have HF := Lib.hid hf
 have hlen := Lib.hid hR.len
 have hn2 : n ≤ 1000000 := by rw [← hlen.out]; exact hf.2.2
 replace hn2 := Lib.hid hn2
 clear hR hB hf
 obtain ⟨b, hb0⟩ : ∃ q, L.b = q := ⟨_, rfl⟩
 have hb1 : 0 ≤ b ∧ b ≤ 2199023255552 := by rw [← hb0]; exact ⟨HF.out.1, HF.out.2.1⟩
 replace hb0 := Lib.hid hb0
 replace hb1 := Lib.hid hb1
 go_enter Try.func79, Try.ntmps79
 go_wp2_with (first | refine box_L rfl _ rfl L (.slice A n p) rfl ?_ | fail)
 intro y1 kL e1 s1
 clear s1
 have HB := e1
 replace R0 := R0.on e1 e1.size
 clear e1
 have w1 : IntKind.i64.wrap ((n : Int) - 1) = (n : Int) - 1 := by have := hn2.out; rw [wrap_sm (by omega) (by omega)]
 have c13 : _ = some (Value.slice A n p) := kL.cell 13
 have BkL := Lib.hid kL
 clear kL
 have BR0 := Lib.hid R0
 clear R0
 have BH := Lib.hid HB
 clear HB
 go_wp2_with fail
 go_loopw [3] (fun iv wr => ∃ i : Int, -1 ≤ i ∧ i < n ∧ iv = .int .i64 i ∧ Hid (Below y1.heap.size y1 wr) ∧ Hid (cnoF L = cnoL L.b L.es (i + 1).toNat)) (fun iv _ => (intOf iv + 1).toNat)
 case atStart => exact ⟨(n : Int) - 1, by omega, by omega, rfl, Lib.hid (Below.refl _ _), Lib.hid (by unfold cnoF; rw [show ((n : Int) - 1 + 1).toNat = L.es.length by rw [hlen.out]; omega])⟩
 case round =>
   obtain ⟨i, hi1, hin, rfl, HY, HC⟩ := hrel
   clear c13 w1
   by_cases hi0 : 0 ≤ i
   · skip
     have kL := BkL.out.below HY.out BkL.out.lt
     have R0 := BR0.out.on HY.out HY.out.size
     have HB := HY.out
     obtain ⟨k, rfl⟩ : ∃ k : Nat, i = (k : Int) := ⟨i.toNat, by omega⟩
     have hkn : k < n := by omega
     obtain ⟨bb, oo, x, hA9, hlt9, hx, hA⟩ := R0.at_ hkn
     subst hA9
     have c13 : wr.cell? ⟨w.heap.size, 13, none⟩ = some (.slice (some ⟨bb, oo, none⟩) n p) := kL.cell 13
     have cge : (k : Int) ≥ 0 := hi0
     have ck : (k : Int) < (n : Int) := hin
     obtain ⟨xk, hxk⟩ : ∃ q, x.k = q := ⟨_, rfl⟩
     have ck1 : wr.cell? ⟨bb, oo + k * 14 + 1, none⟩ = some (.int .i64 xk) := by rw [← hxk]; exact hA 1 _ rfl
     have HC2 : cnoF L = cnoL L.b L.es (k + 1) := HC.out
     replace HC2 := Lib.hid HC2
     replace hx := Lib.hid hx
     replace hxk := Lib.hid hxk
     clear HC hA
     by_cases hk2 : xk = 2
     · skip
       have hb2 : (xk == 2) = true := by simp [hk2]
       have hE := Lib.hid (cno_hit (b := L.b) hx.out (hxk.out.trans hk2))
       replace hk2 := Lib.hid hk2
       have cb : wr.cell? ⟨w.heap.size, 0, none⟩ = some (.int .i64 b) := by rw [← hb0.out]; exact kL.cell 0
       have w2 : IntKind.i64.wrap (b + 1) = b + 1 := by have := hb1.out; rw [wrap_sm (by omega) (by omega)]
       have w3 : IntKind.i64.wrap (b + 1 + (k : Int)) = b + 1 + (k : Int) := by have := hb1.out; have := hn2.out; rw [wrap_sm (by omega) (by omega)]
       go_wp2_with fail
       go_ret
       rw [HC2.out, hE.out, hb0.out]
       exact ⟨rfl, BH.out.trans (HB.mono BH.out.size)⟩
     · skip
       have hb2 : (xk == 2) = false := by simp [hk2]
       have hE := Lib.hid (cno_miss (b := L.b) hx.out (fun e => hk2 (hxk.out.symm.trans e)))
       replace hk2 := Lib.hid hk2
       have wk : IntKind.i64.wrap ((k : Int) - 1) = (k : Int) - 1 := by have := hn2.out; rw [wrap_sm (by omega) (by omega)]
       go_wp2_with fail
       go_roundw
       case rel => exact ⟨(k : Int) - 1, by omega, by omega, rfl, Lib.hid HB, Lib.hid (by rw [HC2.out, hE.out, show ((k : Int) - 1 + 1).toNat = k by omega])⟩
       case measure => simp only [intOf]; omega
   · skip
     have kL := BkL.out.below HY.out BkL.out.lt
     have R0 := BR0.out.on HY.out HY.out.size
     have HB := HY.out
     obtain rfl : i = -1 := by omega
     have cge : ¬ ((-1 : Int) ≥ 0) := by omega
     have HC2 : cnoF L = L.b := HC.out
     replace HC2 := Lib.hid HC2
     clear HC
     have cb : wr.cell? ⟨w.heap.size, 0, none⟩ = some (.int .i64 b) := by rw [← hb0.out]; exact kL.cell 0
     go_wp2_with fail
     go_ret
     rw [HC2.out, hb0.out]
     exact ⟨rfl, BH.out.trans (HB.mono BH.out.size)⟩
end Go.Proofs.Ytegnfkbmlalkeaa.cor
namespace Go.Proofs.Ytegnfkbmlalkeaa.enti
open Go Go.RowKit Go.Proofs.Ytegnfkbmlalkeaa.kit Go.Proofs.Ytegnfkbmlalkeaa.nums Go.Proofs.Ytegnfkbmlalkeaa.cf Go.Proofs.Ytegnfkbmlalkeaa.lg
set_option linter.unusedVariables false
theorem _root_.Go.Proofs.Ytegnfkbmlalkeaa.kit.RdE.drop {w : World} {B n b o : Nat} {es : List EnL} (h : RdE w B (some ⟨b, o, none⟩) n es) {p : Nat} (hp : p < n) : RdE w B (some ⟨b, o + p * 14, none⟩) (n - p) (es.drop p) := by
 refine ⟨by rw [List.length_drop, h.1], fun _ => ?_⟩
 obtain ⟨b', o', e, hlt, hc⟩ := h.2 (by omega)
 simp only [Option.some.injEq, Addr.mk.injEq, and_true] at e
 obtain ⟨rfl, rfl⟩ := e
 refine ⟨b, _, rfl, hlt, fun j x hx => ?_⟩
 rw [List.getElem?_drop] at hx
 have := hc _ _ hx
 rwa [show o + (p + j) * 14 = o + p * 14 + j * 14 by rw [Nat.add_mul]; omega] at this
end Go.Proofs.Ytegnfkbmlalkeaa.enti
namespace Go.Proofs.Ytegnfkbmlalkeaa.cor
open Go Go.RowKit Go.Proofs.Ytegnfkbmlalkeaa.kit Go.Proofs.Ytegnfkbmlalkeaa.nums Go.Proofs.Ytegnfkbmlalkeaa.cf Go.Proofs.Ytegnfkbmlalkeaa.lg Go.Proofs.Ytegnfkbmlalkeaa.cr Go.Proofs.Ytegnfkbmlalkeaa.se
set_option linter.unusedVariables false
theorem bd_lj {w : World} {ops : Array Oper} {rest : List Oper} {o : Oper} {a : Act} {Q : Exit → Act → World → Prop} {q2 : Operand} (j : JtL) (ho : o.op = .build 36 #[(2, q2)]) (hw : Region.wanted o (yielded ops a.tmps) = true) (h2 : a.eval q2 = jV j)
   (h : wpList Try.prog ops Q rest (a.put o.dst (lgV { zL with j := j } (.slice none 0 0))) w) : wpList Try.prog ops Q (o :: rest) a w := by
 refine wpList_val hw ?_ h
 have hr : (Instr.build 36 #[(2, jV j)]).run Try.prog w = .ok (lgV { zL with j := j } (.slice none 0 0)) w := by kernel_rfl
 unfold execOp
 simp [ho, h2, hr]
theorem bd_new {w : World} {ops : Array Oper} {rest : List Oper} {o : Oper} {a : Act} {Q : Exit → Act → World → Prop} {q0 q8 : Operand} (id : Int) (j : JtL) (ho : o.op = .build 39 #[(0, q0), (8, q8)]) (hw : Region.wanted o (yielded ops a.tmps) = true) (h0 : a.eval q0 = .int .i64 id) (h8 : a.eval q8 = lgV { zL with j := j } (.slice none 0 0))
   (h : wpList Try.prog ops Q rest (a.put o.dst (crV (newC id j) (.slice none 0 0))) w) : wpList Try.prog ops Q (o :: rest) a w := by
 refine wpList_val hw ?_ h
 have hr : (Instr.build 39 #[(0, .int .i64 id), (8, lgV { zL with j := j } (.slice none 0 0))]).run Try.prog w = .ok (crV (newC id j) (.slice none 0 0)) w := by kernel_rfl
 unfold execOp
 simp [ho, h0, h8, hr]
set_option maxHeartbeats 2000000 in
set_option maxRecDepth 10000 in
theorem new_any (id : Int) (j : JtL) (w : World) : Calls Try.prog 7 #[.int .i64 id, jV j] w fun e w' => e = .returned (crV (newC id j) (.slice none 0 0)) ∧ Below w.heap.size w w' := by
 go_enter Try.func7, Try.ntmps7
 go_wp2_with (first | go_skip | refine box_J rfl _ rfl j rfl ?_ | fail)
 intro y1 kJ e1 s1
 clear s1
 have HB := e1
 clear e1
 have LTkJkO := Lib.hid kJ.lt
 have LEkO : Hid (w.heap.size ≤ y1.heap.size) := HB.size
 go_wp2_with (first | go_skip | refine al_C rfl rfl ?_ | (first | refine lo_Jj kJ ?_))
 intro y2 kO e2 s2
 clear s2
 replace kO : Blk _ _ _ (crC zC (.slice none 0 0)) := kO
 replace HB := bt HB e2
 replace kJ := kJ.b e2
 clear e2
 generalize y1.heap.size = gkO at *
 go_wp2_with (first | go_skip | refine st_C rfl _ _ rfl (newC id j) none 0 0 rfl rfl _ kO rfl ?_ | (first | refine lo_Jj kJ ?_ | refine lo_Cj kO ?_ | refine lo_cLj kO ?_ | refine lo_cJj kO ?_ | refine bd_lj j rfl rfl rfl ?_ | refine bd_new id j rfl rfl rfl rfl ?_))
 intro y3 kO2 pO
 replace kJ := kJ.put pO (Nat.ne_of_lt LTkJkO.out)
 replace HB := pO.below _ _ HB LEkO.out
 clear kO
 have kO := kO2
 clear kO2 pO
 go_wp2_with (first | go_skip | refine lo_Jj kJ ?_ | refine lo_Cj kO ?_ | refine lo_cLj kO ?_ | refine lo_cJj kO ?_)
 (try simp only [Exit.inBlock, Exit.then])
 refine bodyPost_ret (res1 Try.results7 rfl (aggC _) (sizeC _) (ldCv kO)) rfl ?_
 exact ⟨rfl, HB⟩
end Go.Proofs.Ytegnfkbmlalkeaa.cor
