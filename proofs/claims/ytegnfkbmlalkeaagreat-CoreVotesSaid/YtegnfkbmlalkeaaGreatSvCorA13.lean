/- The landed core: within, isNode, Patience, bounded, stepDown, follow, enter, letter. Conditions: those that the theorems name. -/
import Derived.Deep.RegionHeld3
import Derived.Deep.Cut
import Derived.Lib.Hide
import Derived.Test.YtegnfkbmlalkeaaGreatSvJ2
import Derived.Test.YtegnfkbmlalkeaaGreatSvKitLg
import Derived.Test.YtegnfkbmlalkeaaGreatSvJ0
namespace Go.Proofs.YtegnfkbmlalkeaaGreat.cor
open Go Go.RowKit Go.Proofs.YtegnfkbmlalkeaaGreat.kit Go.Proofs.YtegnfkbmlalkeaaGreat.nums Go.Proofs.YtegnfkbmlalkeaaGreat.cf Go.Proofs.YtegnfkbmlalkeaaGreat.lg Go.Proofs.YtegnfkbmlalkeaaGreat.cr Go.Proofs.YtegnfkbmlalkeaaGreat.se
set_option linter.unusedVariables false
def wiB (n a m : Int) : Bool := decide (a ≤ n) && decide (n ≤ m)
theorem wi_up (n m : Int) : wiB n 0 m = upB n m := rfl
set_option maxHeartbeats 2000000 in
set_option maxRecDepth 10000 in
theorem within_any (n a m : Int) (w : World) : Calls Tryz.prog 50 #[.int .i64 n, .int .i64 a, .int .i64 m] w fun e w' => e = .returned (.bool (wiB n a m)) ∧ w = w' := by
 go_enter Tryz.func50, Tryz.ntmps50
 by_cases h1 : a ≤ n
 · by_cases h2 : n ≤ m
   · have e := Lib.hid (show wiB n a m = true by unfold wiB; rw [decide_eq_true h1, decide_eq_true h2]; rfl)
     go_wp2
     go_ret
     exact ⟨by rw [e.out]; rfl, rfl⟩
   · have e := Lib.hid (show wiB n a m = false by unfold wiB; rw [decide_eq_true h1, decide_eq_false h2]; rfl)
     go_wp2
     go_ret
     exact ⟨by rw [e.out]; rfl, rfl⟩
 · have e := Lib.hid (show wiB n a m = false by unfold wiB; rw [decide_eq_false h1]; rfl)
   go_wp2
   go_ret
   exact ⟨by rw [e.out]; rfl, rfl⟩
set_option maxHeartbeats 2000000 in
set_option maxRecDepth 10000 in
theorem isnode_any (n : Int) (w : World) : Calls Tryz.prog 49 #[.int .i64 n] w fun e w' => e = .returned (.bool (nodeB n)) ∧ w = w' := by
 go_enter Tryz.func49, Tryz.ntmps49
 go_wp2_with fail
 refine (within_any n 1 9 w).mono ?_
 rintro e w1 ⟨rfl, rfl⟩
 go_wp2_with fail
 go_ret
 exact ⟨rfl, rfl⟩
set_option maxHeartbeats 2000000 in
set_option maxRecDepth 10000 in
theorem pat_any (id : Int) (w : World) (h : 0 ≤ id ∧ id ≤ 1000000) : Calls Tryz.prog 24 #[.int .i64 id] w fun e w' => e = .returned (.int .i64 (patF id)) ∧ w = w' := by
 have h1 : 12 + IntKind.i64.wrap (4 * id) = 12 + 4 * id := by rw [wrap_sm (by omega) (by omega)]
 have h2 : IntKind.i64.wrap (4 * id) = 4 * id := by rw [wrap_sm (by omega) (by omega)]
 have h3 : IntKind.i64.wrap (12 + 4 * id) = 12 + 4 * id := by rw [wrap_sm (by omega) (by omega)]
 go_enter Tryz.func24, Tryz.ntmps24
 go_wp2
 go_ret
 exact ⟨rfl, rfl⟩
set_option maxHeartbeats 2000000 in
set_option maxRecDepth 10000 in
theorem bounded_any (v : Int) (w : World) : Calls Tryz.prog 77 #[.int .i64 v] w fun e w' => e = .returned (.int .i64 (bouF v)) ∧ w = w' := by
 go_enter Tryz.func77, Tryz.ntmps77
 go_wp2
 all_goals (go_ret; refine ⟨?_, rfl⟩; first | exact congrArg (fun z => Ending.returned (.int .i64 z)) (by unfold bouF; omega) | (simp; unfold bouF; omega))
set_option maxHeartbeats 2000000 in
set_option maxRecDepth 10000 in
theorem stepDown_any (c : CoL) (A : Option Addr) (n p : Nat) (w : World) : Calls Tryz.prog 113 #[crV c (.slice A n p)] w fun e w' => e = .returned (crV (yieC c) (.slice A n p)) ∧ Below w.heap.size w w' := by
 go_enter Tryz.func113, Tryz.ntmps113
 have LEkC : Hid (w.heap.size ≤ w.heap.size) := Nat.le_refl _
 go_wp2_with (first | refine box_C rfl _ rfl c (.slice A n p) rfl ?_ | fail)
 intro y1 kC e1 s1
 clear s1
 have HB := e1
 clear e1
 have LTkCkO := Lib.hid kC.lt
 have LEkO : Hid (w.heap.size ≤ y1.heap.size) := HB.size
 go_wp2_with (first | refine al_C rfl rfl ?_ | (first | refine lo_Cj kC ?_ | refine lo_cLj kC ?_ | refine lo_cJj kC ?_))
 intro y2 kO e2 s2
 clear s2
 replace kO : Blk _ _ _ (crC zC (.slice none 0 0)) := kO
 replace HB := bt HB e2
 replace kC := kC.b e2
 clear e2
 generalize y1.heap.size = gkO at *
 have df := fun i => kC.frozen i
 have cR1 : _ = some _ := kC.cell 1
 have cR4 : _ = some _ := kC.cell 4
 have cR5 : _ = some _ := kC.cell 5
 go_upto_region 2 with (fail)
 clear df cR1 cR4 cR5
 have kC2 : Blk 33 _ w.heap.size (crC { c with ro := 0 } (.slice A n p)) := kC.set_ 1 (.int .i64 0)
 have pO := put_set y2 w.heap.size (1) (.int .i64 0)
 generalize (y2.setCell ⟨w.heap.size, 1, none⟩ (.int .i64 0)) = y3 at *
 replace kO := kO.put pO (Nat.ne_of_gt LTkCkO.out)
 replace HB := pO.below _ _ HB LEkC.out
 clear kC
 have kC := kC2
 clear kC2 pO
 have kC2 : Blk 33 _ w.heap.size (crC { c with ro := 0, le := 0 } (.slice A n p)) := kC.set_ 4 (.int .i64 0)
 have pO := put_set y3 w.heap.size (4) (.int .i64 0)
 generalize (y3.setCell ⟨w.heap.size, 4, none⟩ (.int .i64 0)) = y4 at *
 replace kO := kO.put pO (Nat.ne_of_gt LTkCkO.out)
 replace HB := pO.below _ _ HB LEkC.out
 clear kC
 have kC := kC2
 clear kC2 pO
 have kC2 : Blk 33 _ w.heap.size (crC (yieC c) (.slice A n p)) := kC.set_ 5 (.int .i64 0)
 have pO := put_set y4 w.heap.size (5) (.int .i64 0)
 generalize (y4.setCell ⟨w.heap.size, 5, none⟩ (.int .i64 0)) = y5 at *
 replace kO := kO.put pO (Nat.ne_of_gt LTkCkO.out)
 replace HB := pO.below _ _ HB LEkC.out
 clear kC
 have kC := kC2
 clear kC2 pO
 go_wp2_with (first | refine st_C rfl _ _ rfl (yieC c) A n p rfl rfl _ kO rfl ?_ | (first | refine lo_Cj kC ?_ | refine lo_cLj kC ?_ | refine lo_cJj kC ?_ | refine lo_Cj kO ?_ | refine lo_cLj kO ?_ | refine lo_cJj kO ?_))
 intro y6 kO2 pO
 replace kC := kC.put pO (Nat.ne_of_lt LTkCkO.out)
 replace HB := pO.below _ _ HB LEkO.out
 clear kO
 have kO := kO2
 clear kO2 pO
 go_wp2_with (first | refine lo_Cj kC ?_ | refine lo_cLj kC ?_ | refine lo_cJj kC ?_ | refine lo_Cj kO ?_ | refine lo_cLj kO ?_ | refine lo_cJj kO ?_)
 (try simp only [Exit.inBlock, Exit.then])
 refine bodyPost_ret (res1 Tryz.results113 rfl (aggC _) (sizeC _) (ldCv kO)) rfl ?_
 exact ⟨rfl, HB⟩
def follN (c : CoL) (f : Int) : CoL := { c with ro := 0, le := f, wa := 0 }
set_option maxHeartbeats 2000000 in
set_option maxRecDepth 10000 in
theorem follow_any (c : CoL) (A : Option Addr) (n p : Nat) (f : Int) (w : World) : Calls Tryz.prog 131 #[crV c (.slice A n p), .int .i64 f] w fun e w' => e = .returned (crV (follN c f) (.slice A n p)) ∧ Below w.heap.size w w' := by
 go_enter Tryz.func131, Tryz.ntmps131
 have LEkC : Hid (w.heap.size ≤ w.heap.size) := Nat.le_refl _
 go_wp2_with (first | refine box_C rfl _ rfl c (.slice A n p) rfl ?_ | fail)
 intro y1 kC e1 s1
 clear s1
 have HB := e1
 clear e1
 have LTkCkO := Lib.hid kC.lt
 have LEkO : Hid (w.heap.size ≤ y1.heap.size) := HB.size
 go_wp2_with (first | refine al_C rfl rfl ?_ | (first | refine lo_Cj kC ?_ | refine lo_cLj kC ?_ | refine lo_cJj kC ?_))
 intro y2 kO e2 s2
 clear s2
 replace kO : Blk _ _ _ (crC zC (.slice none 0 0)) := kO
 replace HB := bt HB e2
 replace kC := kC.b e2
 clear e2
 generalize y1.heap.size = gkO at *
 have df := fun i => kC.frozen i
 have cR1 : _ = some _ := kC.cell 1
 have cR4 : _ = some _ := kC.cell 4
 have cR5 : _ = some _ := kC.cell 5
 go_upto_region 2 with (fail)
 clear df cR1 cR4 cR5
 have kC2 : Blk 33 _ w.heap.size (crC { c with ro := 0 } (.slice A n p)) := kC.set_ 1 (.int .i64 0)
 have pO := put_set y2 w.heap.size (1) (.int .i64 0)
 generalize (y2.setCell ⟨w.heap.size, 1, none⟩ (.int .i64 0)) = y3 at *
 replace kO := kO.put pO (Nat.ne_of_gt LTkCkO.out)
 replace HB := pO.below _ _ HB LEkC.out
 clear kC
 have kC := kC2
 clear kC2 pO
 have kC2 : Blk 33 _ w.heap.size (crC { c with ro := 0, le := f } (.slice A n p)) := kC.set_ 4 (.int .i64 f)
 have pO := put_set y3 w.heap.size (4) (.int .i64 f)
 generalize (y3.setCell ⟨w.heap.size, 4, none⟩ (.int .i64 f)) = y4 at *
 replace kO := kO.put pO (Nat.ne_of_gt LTkCkO.out)
 replace HB := pO.below _ _ HB LEkC.out
 clear kC
 have kC := kC2
 clear kC2 pO
 have kC2 : Blk 33 _ w.heap.size (crC (follN c f) (.slice A n p)) := kC.set_ 5 (.int .i64 0)
 have pO := put_set y4 w.heap.size (5) (.int .i64 0)
 generalize (y4.setCell ⟨w.heap.size, 5, none⟩ (.int .i64 0)) = y5 at *
 replace kO := kO.put pO (Nat.ne_of_gt LTkCkO.out)
 replace HB := pO.below _ _ HB LEkC.out
 clear kC
 have kC := kC2
 clear kC2 pO
 go_wp2_with (first | refine st_C rfl _ _ rfl (follN c f) A n p rfl rfl _ kO rfl ?_ | (first | refine lo_Cj kC ?_ | refine lo_cLj kC ?_ | refine lo_cJj kC ?_ | refine lo_Cj kO ?_ | refine lo_cLj kO ?_ | refine lo_cJj kO ?_))
 intro y6 kO2 pO
 replace kC := kC.put pO (Nat.ne_of_lt LTkCkO.out)
 replace HB := pO.below _ _ HB LEkO.out
 clear kO
 have kO := kO2
 clear kO2 pO
 go_wp2_with (first | refine lo_Cj kC ?_ | refine lo_cLj kC ?_ | refine lo_cJj kC ?_ | refine lo_Cj kO ?_ | refine lo_cLj kO ?_ | refine lo_cJj kO ?_)
 (try simp only [Exit.inBlock, Exit.then])
 refine bodyPost_ret (res1 Tryz.results131 rfl (aggC _) (sizeC _) (ldCv kO)) rfl ?_
 exact ⟨rfl, HB⟩
def entC (c : CoL) (t : Int) : CoL := { c with tm := t, vo := 0, le := 0, ro := 0, wa := if c.ro = 2 then 0 else c.wa }
theorem ent_lead {c : CoL} {t : Int} (h : c.ro = 2) : entC c t = { c with wa := 0, tm := t, vo := 0, le := 0, ro := 0 } := by unfold entC; rw [if_pos h]
theorem ent_not {c : CoL} {t : Int} (h : ¬ c.ro = 2) : entC c t = { c with tm := t, vo := 0, le := 0, ro := 0 } := by unfold entC; rw [if_neg h]
set_option maxHeartbeats 2000000 in
set_option maxRecDepth 10000 in
theorem enter_any (c : CoL) (A : Option Addr) (n p : Nat) (t : Int) (w : World) : Calls Tryz.prog 75 #[crV c (.slice A n p), .int .i64 t] w fun e w' => e = .returned (crV (entC c t) (.slice A n p)) ∧ Below w.heap.size w w' := by
 go_enter Tryz.func75, Tryz.ntmps75
 have LEkC : Hid (w.heap.size ≤ w.heap.size) := Nat.le_refl _
 go_wp2_with (first | refine box_C rfl _ rfl c (.slice A n p) rfl ?_ | fail)
 intro y1 kC e1 s1
 clear s1
 have HB := e1
 clear e1
 have LTkCkO := Lib.hid kC.lt
 have LEkO : Hid (w.heap.size ≤ y1.heap.size) := HB.size
 go_wp2_with (first | refine al_C rfl rfl ?_ | (first | refine lo_Cj kC ?_ | refine lo_cLj kC ?_ | refine lo_cJj kC ?_))
 intro y2 kO e2 s2
 clear s2
 replace kO : Blk _ _ _ (crC zC (.slice none 0 0)) := kO
 replace HB := bt HB e2
 replace kC := kC.b e2
 clear e2
 generalize y1.heap.size = gkO at *
 have cro : _ = some (Value.int .i64 c.ro) := kC.cell 1
 by_cases hro : c.ro = 2
 · skip
   have hb : (c.ro == 2) = true := by simp [hro]
   have hE := Lib.hid (ent_lead (t := t) hro)
   replace hro := Lib.hid hro
   have df := fun i => kC.frozen i
   have cR5 : _ = some _ := kC.cell 5
   go_upto_region 3 with (fail)
   clear df cR5
   have kC2 : Blk 33 _ w.heap.size (crC { c with wa := 0 } (.slice A n p)) := kC.set_ 5 (.int .i64 0)
   have pO := put_set y2 w.heap.size (5) (.int .i64 0)
   generalize (y2.setCell ⟨w.heap.size, 5, none⟩ (.int .i64 0)) = y3 at *
   replace kO := kO.put pO (Nat.ne_of_gt LTkCkO.out)
   replace HB := pO.below _ _ HB LEkC.out
   clear kC
   have kC := kC2
   clear kC2 pO
   clear cro
   have df := fun i => kC.frozen i
   have cR2 : _ = some _ := kC.cell 2
   have cR3 : _ = some _ := kC.cell 3
   have cR4 : _ = some _ := kC.cell 4
   have cR1 : _ = some _ := kC.cell 1
   go_upto_region 4 with (fail)
   clear df cR2 cR3 cR4 cR1
   have kC2 : Blk 33 _ w.heap.size (crC { c with wa := 0, tm := t } (.slice A n p)) := kC.set_ 2 (.int .i64 t)
   have pO := put_set y3 w.heap.size (2) (.int .i64 t)
   generalize (y3.setCell ⟨w.heap.size, 2, none⟩ (.int .i64 t)) = y4 at *
   replace kO := kO.put pO (Nat.ne_of_gt LTkCkO.out)
   replace HB := pO.below _ _ HB LEkC.out
   clear kC
   have kC := kC2
   clear kC2 pO
   have kC2 : Blk 33 _ w.heap.size (crC { c with wa := 0, tm := t, vo := 0 } (.slice A n p)) := kC.set_ 3 (.int .i64 0)
   have pO := put_set y4 w.heap.size (3) (.int .i64 0)
   generalize (y4.setCell ⟨w.heap.size, 3, none⟩ (.int .i64 0)) = y5 at *
   replace kO := kO.put pO (Nat.ne_of_gt LTkCkO.out)
   replace HB := pO.below _ _ HB LEkC.out
   clear kC
   have kC := kC2
   clear kC2 pO
   have kC2 : Blk 33 _ w.heap.size (crC { c with wa := 0, tm := t, vo := 0, le := 0 } (.slice A n p)) := kC.set_ 4 (.int .i64 0)
   have pO := put_set y5 w.heap.size (4) (.int .i64 0)
   generalize (y5.setCell ⟨w.heap.size, 4, none⟩ (.int .i64 0)) = y6 at *
   replace kO := kO.put pO (Nat.ne_of_gt LTkCkO.out)
   replace HB := pO.below _ _ HB LEkC.out
   clear kC
   have kC := kC2
   clear kC2 pO
   have kC2 : Blk 33 _ w.heap.size (crC { c with wa := 0, tm := t, vo := 0, le := 0, ro := 0 } (.slice A n p)) := kC.set_ 1 (.int .i64 0)
   have pO := put_set y6 w.heap.size (1) (.int .i64 0)
   generalize (y6.setCell ⟨w.heap.size, 1, none⟩ (.int .i64 0)) = y7 at *
   replace kO := kO.put pO (Nat.ne_of_gt LTkCkO.out)
   replace HB := pO.below _ _ HB LEkC.out
   clear kC
   have kC := kC2
   clear kC2 pO
   rw [← hE.out] at kC
   go_wp2_with (first | refine st_C rfl _ _ rfl (entC c t) A n p rfl rfl _ kO rfl ?_ | (first | refine lo_Cj kC ?_ | refine lo_cLj kC ?_ | refine lo_cJj kC ?_ | refine lo_Cj kO ?_ | refine lo_cLj kO ?_ | refine lo_cJj kO ?_))
   intro y8 kO2 pO
   replace kC := kC.put pO (Nat.ne_of_lt LTkCkO.out)
   replace HB := pO.below _ _ HB LEkO.out
   clear kO
   have kO := kO2
   clear kO2 pO
   go_wp2_with (first | refine lo_Cj kC ?_ | refine lo_cLj kC ?_ | refine lo_cJj kC ?_ | refine lo_Cj kO ?_ | refine lo_cLj kO ?_ | refine lo_cJj kO ?_)
   (try simp only [Exit.inBlock, Exit.then])
   refine bodyPost_ret (res1 Tryz.results75 rfl (aggC _) (sizeC _) (ldCv kO)) rfl ?_
   exact ⟨rfl, HB⟩
 · skip
   have hb : (c.ro == 2) = false := by simp [hro]
   have hE := Lib.hid (ent_not (t := t) hro)
   replace hro := Lib.hid hro
   have df := fun i => kC.frozen i
   have cR2 : _ = some _ := kC.cell 2
   have cR3 : _ = some _ := kC.cell 3
   have cR4 : _ = some _ := kC.cell 4
   have cR1 : _ = some _ := kC.cell 1
   go_upto_region 4 with (fail)
   clear df cR2 cR3 cR4 cR1
   have kC2 : Blk 33 _ w.heap.size (crC { c with tm := t } (.slice A n p)) := kC.set_ 2 (.int .i64 t)
   have pO := put_set y2 w.heap.size (2) (.int .i64 t)
   generalize (y2.setCell ⟨w.heap.size, 2, none⟩ (.int .i64 t)) = y3 at *
   replace kO := kO.put pO (Nat.ne_of_gt LTkCkO.out)
   replace HB := pO.below _ _ HB LEkC.out
   clear kC
   have kC := kC2
   clear kC2 pO
   have kC2 : Blk 33 _ w.heap.size (crC { c with tm := t, vo := 0 } (.slice A n p)) := kC.set_ 3 (.int .i64 0)
   have pO := put_set y3 w.heap.size (3) (.int .i64 0)
   generalize (y3.setCell ⟨w.heap.size, 3, none⟩ (.int .i64 0)) = y4 at *
   replace kO := kO.put pO (Nat.ne_of_gt LTkCkO.out)
   replace HB := pO.below _ _ HB LEkC.out
   clear kC
   have kC := kC2
   clear kC2 pO
   have kC2 : Blk 33 _ w.heap.size (crC { c with tm := t, vo := 0, le := 0 } (.slice A n p)) := kC.set_ 4 (.int .i64 0)
   have pO := put_set y4 w.heap.size (4) (.int .i64 0)
   generalize (y4.setCell ⟨w.heap.size, 4, none⟩ (.int .i64 0)) = y5 at *
   replace kO := kO.put pO (Nat.ne_of_gt LTkCkO.out)
   replace HB := pO.below _ _ HB LEkC.out
   clear kC
   have kC := kC2
   clear kC2 pO
   have kC2 : Blk 33 _ w.heap.size (crC { c with tm := t, vo := 0, le := 0, ro := 0 } (.slice A n p)) := kC.set_ 1 (.int .i64 0)
   have pO := put_set y5 w.heap.size (1) (.int .i64 0)
   generalize (y5.setCell ⟨w.heap.size, 1, none⟩ (.int .i64 0)) = y6 at *
   replace kO := kO.put pO (Nat.ne_of_gt LTkCkO.out)
   replace HB := pO.below _ _ HB LEkC.out
   clear kC
   have kC := kC2
   clear kC2 pO
   clear cro
   rw [← hE.out] at kC
   go_wp2_with (first | refine st_C rfl _ _ rfl (entC c t) A n p rfl rfl _ kO rfl ?_ | (first | refine lo_Cj kC ?_ | refine lo_cLj kC ?_ | refine lo_cJj kC ?_ | refine lo_Cj kO ?_ | refine lo_cLj kO ?_ | refine lo_cJj kO ?_))
   intro y7 kO2 pO
   replace kC := kC.put pO (Nat.ne_of_lt LTkCkO.out)
   replace HB := pO.below _ _ HB LEkO.out
   clear kO
   have kO := kO2
   clear kO2 pO
   go_wp2_with (first | refine lo_Cj kC ?_ | refine lo_cLj kC ?_ | refine lo_cJj kC ?_ | refine lo_Cj kO ?_ | refine lo_cLj kO ?_ | refine lo_cJj kO ?_)
   (try simp only [Exit.inBlock, Exit.then])
   refine bodyPost_ret (res1 Tryz.results75 rfl (aggC _) (sizeC _) (ldCv kO)) rfl ?_
   exact ⟨rfl, HB⟩
theorem bd_let {w : World} {ops : Array Oper} {rest : List Oper} {o : Oper} {a : Act} {Q : Exit → Act → World → Prop} {q0 q1 q2 q3 : Operand} (k f t m : Int) (ho : o.op = .build 49 #[(0, q0), (1, q1), (2, q2), (3, q3)]) (hw : Region.wanted o (yielded ops a.tmps) = true) (h0 : a.eval q0 = .int .i64 k) (h1 : a.eval q1 = .int .i64 f) (h2 : a.eval q2 = .int .i64 t) (h3 : a.eval q3 = .int .i64 m)
   (h : wpList Tryz.prog ops Q rest (a.put o.dst (msV { zM with k := k, f := f, t := t, m := m } (.slice none 0 0))) w) : wpList Tryz.prog ops Q (o :: rest) a w := by
 refine wpList_val hw ?_ h
 have hr : (Instr.build 49 #[(0, .int .i64 k), (1, .int .i64 f), (2, .int .i64 t), (3, .int .i64 m)]).run Tryz.prog w = .ok (msV { zM with k := k, f := f, t := t, m := m } (.slice none 0 0)) w := by kernel_rfl
 unfold execOp
 simp [ho, h0, h1, h2, h3, hr]
def letM (c : CoL) (k t : Int) : MsL := { zM with k := k, f := c.id, t := t, m := c.tm }
set_option maxHeartbeats 2000000 in
set_option maxRecDepth 10000 in
theorem letter_any (c : CoL) (A : Option Addr) (n p : Nat) (k t : Int) (w : World) : Calls Tryz.prog 122 #[crV c (.slice A n p), .int .i64 k, .int .i64 t] w fun e w' => e = .returned (msV (letM c k t) (.slice none 0 0)) ∧ Below w.heap.size w w' := by
 go_enter Tryz.func122, Tryz.ntmps122
 go_wp2_with (first | refine box_C rfl _ rfl c (.slice A n p) rfl ?_ | fail)
 intro y1 kC e1 s1
 clear s1
 have HB := e1
 clear e1
 have LTkCkO := Lib.hid kC.lt
 have LEkO : Hid (w.heap.size ≤ y1.heap.size) := HB.size
 go_wp2_with (first | refine al_M rfl rfl ?_ | (first | refine lo_Cj kC ?_ | refine lo_cLj kC ?_ | refine lo_cJj kC ?_))
 intro y2 kO e2 s2
 clear s2
 replace kO : Blk _ _ _ (msC zM (.slice none 0 0)) := kO
 replace HB := bt HB e2
 replace kC := kC.b e2
 clear e2
 generalize y1.heap.size = gkO at *
 have c0 : _ = some (Value.int .i64 c.id) := kC.cell 0
 have c2 : _ = some (Value.int .i64 c.tm) := kC.cell 2
 go_wp2_with (first | refine st_M rfl _ _ rfl (letM c k t) none 0 0 rfl rfl _ kO rfl ?_ | (first | refine lo_Cj kC ?_ | refine lo_cLj kC ?_ | refine lo_cJj kC ?_ | refine lo_Mj kO ?_ | refine lo_mJj kO ?_ | refine bd_let k c.id t c.tm rfl rfl rfl rfl rfl rfl ?_))
 intro y3 kO2 pO
 replace kC := kC.put pO (Nat.ne_of_lt LTkCkO.out)
 replace HB := pO.below _ _ HB LEkO.out
 clear kO
 have kO := kO2
 clear kO2 pO
 clear c0 c2
 go_wp2_with (first | refine lo_Cj kC ?_ | refine lo_cLj kC ?_ | refine lo_cJj kC ?_ | refine lo_Mj kO ?_ | refine lo_mJj kO ?_)
 (try simp only [Exit.inBlock, Exit.then])
 refine bodyPost_ret (res1 Tryz.results122 rfl (aggM _) (sizeM _) (ldMv kO)) rfl ?_
 exact ⟨rfl, HB⟩
end Go.Proofs.YtegnfkbmlalkeaaGreat.cor
