/- The document's bound and Compact. Conditions: those that the theorems name. -/
import Derived.BigQuiet
import Derived.Deep.RegionHeld3
import Derived.Deep.Cut
import Derived.Lib.Hide
import Derived.Test.YtegnfkbmlalkeaaGreatSpKitCl
import Derived.Test.YtegnfkbmlalkeaaGreatSpJ4
import Derived.Test.YtegnfkbmlalkeaaGreatSpConfJ
import Derived.Test.YtegnfkbmlalkeaaGreatSpEntD
import Derived.Test.YtegnfkbmlalkeaaGreatSpKitLg
import Derived.Test.YtegnfkbmlalkeaaGreatSpJ0
import Derived.Test.YtegnfkbmlalkeaaGreatSpJ2
import Derived.Test.YtegnfkbmlalkeaaGreatSpEntL
import Derived.Test.YtegnfkbmlalkeaaGreatSpJ3
import Derived.Test.YtegnfkbmlalkeaaGreatSpRefE12
import Derived.Test.YtegnfkbmlalkeaaGreatSpRefM12
import Derived.Test.YtegnfkbmlalkeaaGreatSpCorM13
set_option linter.unusedVariables false
set_option maxHeartbeats 16000000
set_option maxRecDepth 10000
namespace Go.Proofs.YtegnfkbmlalkeaaGreat.cor
open Go Go.RowKit kit nums cf lg cr se
theorem deaf_not {c : CoL} {m : MsL} (h : deafB c m = false) : (1 ≤ m.f ∧ m.f ≤ 9) ∧ (1 ≤ m.m ∧ m.m ≤ 1099511627776) ∧ (m.k = 1 ∨ m.k = 2 ∨ m.k = 3 ∨ m.k = 4 ∨ m.k = 5 ∨ m.k = 6) := by
 rw [deaf_form] at h
 simp only [Bool.or_eq_false_iff, Bool.not_eq_false', wiB, nodeB, Bool.and_eq_true, decide_eq_true_eq, decide_eq_false_iff_not] at h
 obtain ⟨_, _, h1, h2, h3, h4, _⟩ := h
 exact ⟨h1, h2, by omega⟩
theorem bou_in (v : Int) : 0 ≤ bouF v ∧ bouF v ≤ 1099511627776 := by unfold bouF; omega
def goF (d : CoL) (m : MsL) : CoL × List MsL := if m.k = 1 then askF d m else if m.k = 2 then voteF d m else if m.k = 4 then ackF d m else if d.ro = 2 then (d, []) else toldF d m
theorem step_eq {c : CoL} {m : MsL} (h : deafB c m = false) (hm : m.m = c.tm) : stepF c m = goF c (bouM m) := by
 unfold stepF; rw [if_neg (by rw [h]; decide)]
 dsimp only
 rw [if_neg (by omega)]
 have e : termC c m = c := by unfold termC; rw [if_neg (by omega)]
 rw [e]; rfl
theorem go2 {d : CoL} {m : MsL} (h : m.k = 2) : goF d m = voteF d m := by unfold goF; rw [if_neg (by omega), if_pos h]
end Go.Proofs.YtegnfkbmlalkeaaGreat.cor
namespace Go.Proofs.YtegnfkbmlalkeaaGreat.cor
open Go Go.RowKit kit nums cf lg cr se
theorem comp_err {c : CoL} {tz : Int} {d : ByteArray} (h : c.cm < tz ∨ tz < c.lg.b) : compF c tz d = (zC, 1) := if_pos h
def cpC (c : CoL) (l : LgL) (d : ByteArray) : CoL := { c with lg := l, sn := d }
theorem comp_ok {c : CoL} {tz : Int} {d : ByteArray} (h : ¬ (c.cm < tz ∨ tz < c.lg.b)) : compF c tz d = (cpC c (compactF c.lg tz).1 d, 0) := if_neg h
theorem compactE {l : LgL} {tz : Int} (h : tz ≤ lastF l) : (compactF l tz).2 = if tz < l.b then 1 else 0 := by
 have e : (termF l tz).2 = !decide (tz < l.b) := by
  unfold termF
  by_cases hb : tz = l.b
  · rw [if_pos hb, decide_eq_false (by omega)]; rfl
  ·
   rw [if_neg hb]
   show (atF l tz).2 = _
   unfold atF
   by_cases hl : tz < l.b
   · rw [if_neg (by omega), decide_eq_true hl]; rfl
   · rw [if_pos (by omega), decide_eq_false hl]; rfl
 unfold compactF
 rw [e]
 by_cases hl : tz < l.b
 · rw [decide_eq_true hl, if_neg (by decide), if_pos hl]
 · rw [decide_eq_false hl, if_pos (by decide), if_neg hl]
theorem compact_any (c : CoL) (A : Option Addr) (n p : Nat) (tz : Int) (d : ByteArray) (w : World) (B : Nat) (hR : RdE w B A n c.lg.es) (hB : B ≤ w.heap.size) (hp : n ≤ p) (hf : Fit c.lg) (hcl : c.cm ≤ lastF c.lg) : Calls Tryz.prog 31 #[crV c (.slice A n p), .int .i64 tz, .string d] w fun e w' => ∃ A' n' p', e = .returned (.tuple #[crV (compF c tz d).1 (.slice A' n' p'), .int .i64 (compF c tz d).2]) ∧ RdE w' w'.heap.size A' n' (compF c tz d).1.lg.es ∧ n' ≤ p' ∧ OldNew w.heap.size A n A' n' ∧ Below w.heap.size w w' := by
 have HF := Lh hf
 have hEe := Lh (fun h => comp_err (c := c) (tz := tz) (d := d) h)
 have hEo := Lh (fun h => comp_ok (c := c) (tz := tz) (d := d) h)
 have hCE := Lh (fun h => compactE (l := c.lg) (tz := tz) h)
 obtain ⟨cm, hcm⟩ : ∃ q, c.cm = q := ⟨_, rfl⟩
 obtain ⟨b, hb0⟩ : ∃ q, c.lg.b = q := ⟨_, rfl⟩
 rw [hcm, hb0] at hEe hEo
 rw [hb0] at hCE
 rw [hcm] at hcl
 obtain ⟨L2, hL2⟩ : ∃ q, (compactF c.lg tz).1 = q := ⟨_, rfl⟩
 obtain ⟨e2, he2⟩ : ∃ q, (compactF c.lg tz).2 = q := ⟨_, rfl⟩
 rw [hL2] at hEo
 rw [he2] at hCE
 clear hf
 replace hcm := Lh hcm
 replace hb0 := Lh hb0
 replace hcl := Lh hcl
 replace hL2 := Lh hL2
 replace he2 := Lh he2
 have R0 := hR.more hB
 clear hR hB
 go_enter Tryz.func31, Tryz.ntmps31
 have NIR0kC := Lh (NotIn.of_rd R0 (Nat.le_refl _))
 have LEkC : Hid (w.heap.size ≤ w.heap.size) := Nat.le_refl _
 go_wp2_with (first | go_skip | refine box_C rfl _ rfl c (.slice A n p) rfl ?_ | fail)
 intro y1 kC e1 s1
 clear s1
 have HB := e1
 replace R0 := R0.on e1 e1.size
 clear e1
 have LTkCkO := Lh kC.lt
 have NIR0kO := Lh (NotIn.of_rd R0 (Nat.le_refl _))
 have LEkO : Hid (w.heap.size ≤ y1.heap.size) := HB.size
 go_wp2_with (first | go_skip | refine al_C rfl rfl ?_ | (first | refine lo_Cj kC ?_ | refine lo_cLj kC ?_ | refine lo_cJj kC ?_))
 intro y2 kO e2 s2
 clear s2
 replace kO : Blk _ _ _ (crC zC (.slice none 0 0)) := kO
 replace HB := bt HB e2
 replace kC := kC.b e2
 replace R0 := R0.on e2 e2.size
 clear e2
 generalize y1.heap.size = gkO at *
 have ccm : y2.cell? ⟨w.heap.size, 6, none⟩ = some (.int .i64 cm) := by rw [← hcm.out]; exact kC.cell 6
 by_cases hgt : tz > cm
 ·
  have hE := Lh (hEe.out (.inl (by omega)))
  have hgt2 := Lh hgt
  go_wp2_with (first | go_skip | refine st_C rfl _ _ rfl zC none 0 0 rfl rfl _ kO rfl ?_ | (first | refine lo_Cj kC ?_ | refine lo_cLj kC ?_ | refine lo_cJj kC ?_ | refine lo_Cj kO ?_ | refine lo_cLj kO ?_ | refine lo_cJj kO ?_ | refine bd_c0 rfl rfl ?_))
  intro y3 kO2 pO
  replace kC := kC.put pO (Nat.ne_of_lt LTkCkO.out)
  replace R0 := R0.putS pO NIR0kO.out
  replace HB := pO.below _ _ HB LEkO.out
  clear kO
  have kO := kO2
  clear kO2 pO
  clear ccm
  go_wp2_with (first | go_skip | refine lo_Cj kC ?_ | refine lo_cLj kC ?_ | refine lo_cJj kC ?_ | refine lo_Cj kO ?_ | refine lo_cLj kO ?_ | refine lo_cJj kO ?_)
  (try simp only [Exit.inBlock, Exit.then])
  refine bodyPost_ret (res2 Tryz.results31 rfl rfl (aggC _) (sizeC _) (ldCv kO)) rfl ?_
  rw [hE.out]
  exact ⟨none, 0, 0, rfl, RdE.nil _ _ _, Nat.le_refl _, OldNew.nil _ _ _ _, HB⟩
 have hgt2 := Lh hgt
 go_wp2_with (first | go_skip | refine lo_Cj kC ?_ | refine lo_cLj kC ?_ | refine lo_cJj kC ?_ | refine lo_Cj kO ?_ | refine lo_cLj kO ?_ | refine lo_cJj kO ?_)
 clear ccm hgt
 have CC := enti.compact_any c.lg A n p tz y2 y2.heap.size R0 (Nat.le_refl _) hp HF.out
 rw [hL2.out, he2.out] at CC
 refine CC.mono ?_
 rintro e y3 ⟨A5, n5, p5, rfl, hn5, hO, hY⟩
 clear CC
 replace hn5 := Lh hn5
 have NIR5kC := Lh (NotIn.of_own hO kC.lt)
 have NIR5kO := Lh (NotIn.of_own hO kO.lt)
 have ON52 : Hid (OldNew w.heap.size A n A5 n5) := OldNew.own hO HB.size
 have R5 := hO.cap.2.2.2
 have hp5 := hO.cap.2.1
 clear hO
 replace HB := bt HB hY
 replace kC := kC.b hY
 replace kO := kO.b hY
 replace R0 := R0.on hY hY.size
 clear hY
 have LTkCkL := Lh kC.lt
 have LTkOkL := Lh kO.lt
 have NIR0kL := Lh (NotIn.of_rd R0 (Nat.le_refl _))
 have NIR5kL := Lh (NotIn.of_rd R5 (Nat.le_refl _))
 have LEkL : Hid (w.heap.size ≤ y3.heap.size) := HB.size
 go_wp2_with (first | go_skip | refine al_L rfl rfl ?_ | (first | refine lo_Cj kC ?_ | refine lo_cLj kC ?_ | refine lo_cJj kC ?_ | refine lo_Cj kO ?_ | refine lo_cLj kO ?_ | refine lo_cJj kO ?_))
 intro y4 kL e4 s4
 clear s4
 replace kL : Blk _ _ _ (lgC zL (.slice none 0 0)) := kL
 replace HB := bt HB e4
 replace kC := kC.b e4
 replace kO := kO.b e4
 replace R0 := R0.on e4 e4.size
 replace R5 := R5.on e4 e4.size
 clear e4
 generalize y3.heap.size = gkL at *
 go_wp2_with (first | go_skip | refine st_L rfl _ _ rfl L2 A5 n5 p5 rfl rfl _ kL rfl ?_ | (first | refine lo_Cj kC ?_ | refine lo_cLj kC ?_ | refine lo_cJj kC ?_ | refine lo_Cj kO ?_ | refine lo_cLj kO ?_ | refine lo_cJj kO ?_ | refine lo_Lj kL ?_ | refine lo_lJj kL ?_))
 intro y5 kL2 pO
 replace kC := kC.put pO (Nat.ne_of_lt LTkCkL.out)
 replace kO := kO.put pO (Nat.ne_of_lt LTkOkL.out)
 replace R0 := R0.putS pO NIR0kL.out
 replace R5 := R5.putS pO NIR5kL.out
 replace HB := pO.below _ _ HB LEkL.out
 clear kL
 have kL := kL2
 clear kL2 pO
 have hCE2 := hCE.out (by have := hcl.out; have := hgt2.out; omega)
 by_cases hlo : tz < b
 ·
  have hE := Lh (hEe.out (.inr hlo))
  rw [if_pos hlo] at hCE2
  subst hCE2
  replace hlo := Lh hlo
  go_wp2_with (first | go_skip | refine st_C rfl _ _ rfl zC none 0 0 rfl rfl _ kO rfl ?_ | (first | refine lo_Cj kC ?_ | refine lo_cLj kC ?_ | refine lo_cJj kC ?_ | refine lo_Cj kO ?_ | refine lo_cLj kO ?_ | refine lo_cJj kO ?_ | refine lo_Lj kL ?_ | refine lo_lJj kL ?_ | refine bd_c0 rfl rfl ?_))
  intro y6 kO2 pO
  replace kC := kC.put pO (Nat.ne_of_lt LTkCkO.out)
  replace kL := kL.put pO (Nat.ne_of_gt LTkOkL.out)
  replace R0 := R0.putS pO NIR0kO.out
  replace R5 := R5.putS pO NIR5kO.out
  replace HB := pO.below _ _ HB LEkO.out
  clear kO
  have kO := kO2
  clear kO2 pO
  go_wp2_with (first | go_skip | refine lo_Cj kC ?_ | refine lo_cLj kC ?_ | refine lo_cJj kC ?_ | refine lo_Cj kO ?_ | refine lo_cLj kO ?_ | refine lo_cJj kO ?_ | refine lo_Lj kL ?_ | refine lo_lJj kL ?_)
  (try simp only [Exit.inBlock, Exit.then])
  refine bodyPost_ret (res2 Tryz.results31 rfl rfl (aggC _) (sizeC _) (ldCv kO)) rfl ?_
  rw [hE.out]
  exact ⟨none, 0, 0, rfl, RdE.nil _ _ _, Nat.le_refl _, OldNew.nil _ _ _ _, HB⟩
 have hE := Lh (hEo.out (fun h => h.elim (fun h => by have := hgt2.out; omega) hlo))
 rw [if_neg hlo] at hCE2
 subst hCE2
 replace hlo := Lh hlo
 go_wp2_with (first | go_skip | refine wpList_stAt rfl 30 _ _ rfl (cells := (lgC L2 (.slice A5 n5 p5)).toArray) (crC { c with lg := L2 } (.slice A5 n5 p5)) rfl rfl kC sizeLv (by show 8 + 14 ≤ 45; omega) (lg_one _) rfl ?_ | (first | refine lo_Cj kC ?_ | refine lo_cLj kC ?_ | refine lo_cJj kC ?_ | refine lo_Cj kO ?_ | refine lo_cLj kO ?_ | refine lo_cJj kO ?_ | refine lo_Lj kL ?_ | refine lo_lJj kL ?_))
 intro y6 kC2 pO
 replace kO := kO.put pO (Nat.ne_of_gt LTkCkO.out)
 replace kL := kL.put pO (Nat.ne_of_gt LTkCkL.out)
 replace R0 := R0.putS pO NIR0kC.out
 replace R5 := R5.putS pO NIR5kC.out
 replace HB := pO.below _ _ HB LEkC.out
 clear kC
 have kC := kC2
 clear kC2 pO
 have df := fun i => kC.frozen i
 have cR22 : _ = some _ := kC.cell 22
 go_upto_region 7 with (go_skip)
 clear df cR22
 have kC2 : Blk 33 _ w.heap.size (crC (cpC c L2 d) (.slice A5 n5 p5)) := kC.set_ 22 (.string d)
 have pO := put_set y6 w.heap.size (22) (.string d)
 generalize (y6.setCell ⟨w.heap.size, 22, none⟩ (.string d)) = y7 at *
 replace kO := kO.put pO (Nat.ne_of_gt LTkCkO.out)
 replace kL := kL.put pO (Nat.ne_of_gt LTkCkL.out)
 replace R0 := R0.putS pO NIR0kC.out
 replace R5 := R5.putS pO NIR5kC.out
 replace HB := pO.below _ _ HB LEkC.out
 clear kC
 have kC := kC2
 clear kC2 pO
 go_wp2_with (first | go_skip | refine st_C rfl _ _ rfl (cpC c L2 d) A5 n5 p5 rfl rfl _ kO rfl ?_ | (first | refine lo_Cj kC ?_ | refine lo_cLj kC ?_ | refine lo_cJj kC ?_ | refine lo_Cj kO ?_ | refine lo_cLj kO ?_ | refine lo_cJj kO ?_ | refine lo_Lj kL ?_ | refine lo_lJj kL ?_))
 intro y8 kO2 pO
 replace kC := kC.put pO (Nat.ne_of_lt LTkCkO.out)
 replace kL := kL.put pO (Nat.ne_of_gt LTkOkL.out)
 replace R0 := R0.putS pO NIR0kO.out
 replace R5 := R5.putS pO NIR5kO.out
 replace HB := pO.below _ _ HB LEkO.out
 clear kO
 have kO := kO2
 clear kO2 pO
 go_wp2_with (first | go_skip | refine lo_Cj kC ?_ | refine lo_cLj kC ?_ | refine lo_cJj kC ?_ | refine lo_Cj kO ?_ | refine lo_cLj kO ?_ | refine lo_cJj kO ?_ | refine lo_Lj kL ?_ | refine lo_lJj kL ?_)
 (try simp only [Exit.inBlock, Exit.then])
 refine bodyPost_ret (res2 Tryz.results31 rfl rfl (aggC _) (sizeC _) (ldCv kO)) rfl ?_
 rw [hE.out]
 exact ⟨A5, n5, p5, rfl, R5, hp5, ON52.out, HB⟩
end Go.Proofs.YtegnfkbmlalkeaaGreat.cor
namespace Go.Proofs.YtegnfkbmlalkeaaGreat.cor
open Go Go.RowKit kit nums cf lg cr se
theorem rcomp_any (c : CoL) (A : Option Addr) (n p : Nat) (tz : Int) (d : ByteArray) (w : World) (B : Nat) (hR : RdE w B A n c.lg.es) (hB : B ≤ w.heap.size) (hp : n ≤ p) (hf : Fit c.lg) : Calls Tryz.prog 32 #[crV c (.slice A n p), .int .i64 tz, .string d] w fun e w' => ∃ A' n' p', e = .returned (.tuple #[crV (compF c tz d).1 (.slice A' n' p'), .int .i64 (compF c tz d).2]) ∧ RdE w' w'.heap.size A' n' (compF c tz d).1.lg.es ∧ n' ≤ p' ∧ OldNew w.heap.size A n A' n' ∧ Below w.heap.size w w' := by
 have HF := Lh hf
 have hEe := Lh (fun h => cor.comp_err (c := c) (tz := tz) (d := d) h)
 have hEo := Lh (fun h => cor.comp_ok (c := c) (tz := tz) (d := d) h)
 obtain ⟨cm, hcm⟩ : ∃ q, c.cm = q := ⟨_, rfl⟩
 obtain ⟨b, hb0⟩ : ∃ q, c.lg.b = q := ⟨_, rfl⟩
 rw [hcm, hb0] at hEe hEo
 obtain ⟨L2, hL2⟩ : ∃ q, (compactF c.lg tz).1 = q := ⟨_, rfl⟩
 obtain ⟨e2, he2⟩ : ∃ q, (compactF c.lg tz).2 = q := ⟨_, rfl⟩
 rw [hL2] at hEo
 clear hf
 replace hcm := Lh hcm
 replace hb0 := Lh hb0
 replace hL2 := Lh hL2
 replace he2 := Lh he2
 have R0 := hR.more hB
 clear hR hB
 go_enter Tryz.func32, Tryz.ntmps32
 have NIR0kC := Lh (NotIn.of_rd R0 (Nat.le_refl _))
 have LEkC : Hid (w.heap.size ≤ w.heap.size) := Nat.le_refl _
 go_wp2_with (first | go_skip | refine box_C rfl _ rfl c (.slice A n p) rfl ?_ | fail)
 intro y1 kC e1 s1
 clear s1
 have HB := e1
 replace R0 := R0.on e1 e1.size
 clear e1
 have LTkCkO := Lh kC.lt
 have NIR0kO := Lh (NotIn.of_rd R0 (Nat.le_refl _))
 have LEkO : Hid (w.heap.size ≤ y1.heap.size) := HB.size
 go_wp2_with (first | go_skip | refine al_C rfl rfl ?_ | (first | refine lo_Cj kC ?_ | refine lo_cLj kC ?_ | refine lo_cJj kC ?_))
 intro y2 kO e2 s2
 clear s2
 replace kO : Blk _ _ _ (crC zC (.slice none 0 0)) := kO
 replace HB := bt HB e2
 replace kC := kC.b e2
 replace R0 := R0.on e2 e2.size
 clear e2
 generalize y1.heap.size = gkO at *
 have ccm : y2.cell? ⟨w.heap.size, 6, none⟩ = some (.int .i64 cm) := by rw [← hcm.out]; exact kC.cell 6
 have cb : y2.cell? ⟨w.heap.size, 8, none⟩ = some (.int .i64 b) := by rw [← hb0.out]; exact kC.cell 8
 by_cases hgt : tz > cm
 ·
  have hE := Lh (hEe.out (.inl (by omega)))
  go_wp2_with (first | go_skip | refine st_C rfl _ _ rfl zC none 0 0 rfl rfl _ kO rfl ?_ | (first | refine lo_Cj kC ?_ | refine lo_cLj kC ?_ | refine lo_cJj kC ?_ | refine lo_Cj kO ?_ | refine lo_cLj kO ?_ | refine lo_cJj kO ?_ | refine bd_c0 rfl rfl ?_))
  intro y3 kO2 pO
  replace kC := kC.put pO (Nat.ne_of_lt LTkCkO.out)
  replace R0 := R0.putS pO NIR0kO.out
  replace HB := pO.below _ _ HB LEkO.out
  clear kO
  have kO := kO2
  clear kO2 pO
  clear ccm cb
  go_wp2_with (first | go_skip | refine lo_Cj kC ?_ | refine lo_cLj kC ?_ | refine lo_cJj kC ?_ | refine lo_Cj kO ?_ | refine lo_cLj kO ?_ | refine lo_cJj kO ?_)
  (try simp only [Exit.inBlock, Exit.then])
  refine bodyPost_ret (res2 Tryz.results32 rfl rfl (aggC _) (sizeC _) (ldCv kO)) rfl ?_
  rw [hE.out]
  exact ⟨none, 0, 0, rfl, RdE.nil _ _ _, Nat.le_refl _, OldNew.nil _ _ _ _, HB⟩
 by_cases hlo : tz < b
 ·
  have hE := Lh (hEe.out (.inr hlo))
  go_wp2_with (first | go_skip | refine st_C rfl _ _ rfl zC none 0 0 rfl rfl _ kO rfl ?_ | (first | refine lo_Cj kC ?_ | refine lo_cLj kC ?_ | refine lo_cJj kC ?_ | refine lo_Cj kO ?_ | refine lo_cLj kO ?_ | refine lo_cJj kO ?_ | refine bd_c0 rfl rfl ?_))
  intro y3 kO2 pO
  replace kC := kC.put pO (Nat.ne_of_lt LTkCkO.out)
  replace R0 := R0.putS pO NIR0kO.out
  replace HB := pO.below _ _ HB LEkO.out
  clear kO
  have kO := kO2
  clear kO2 pO
  clear ccm cb
  go_wp2_with (first | go_skip | refine lo_Cj kC ?_ | refine lo_cLj kC ?_ | refine lo_cJj kC ?_ | refine lo_Cj kO ?_ | refine lo_cLj kO ?_ | refine lo_cJj kO ?_)
  (try simp only [Exit.inBlock, Exit.then])
  refine bodyPost_ret (res2 Tryz.results32 rfl rfl (aggC _) (sizeC _) (ldCv kO)) rfl ?_
  rw [hE.out]
  exact ⟨none, 0, 0, rfl, RdE.nil _ _ _, Nat.le_refl _, OldNew.nil _ _ _ _, HB⟩
 have hE := Lh (hEo.out (fun h => h.elim (fun h => by omega) hlo))
 go_wp2_with (first | go_skip | refine lo_Cj kC ?_ | refine lo_cLj kC ?_ | refine lo_cJj kC ?_ | refine lo_Cj kO ?_ | refine lo_cLj kO ?_ | refine lo_cJj kO ?_)
 clear ccm cb hgt hlo
 have CC := ref12.rcompact2_any c.lg A n p tz y2 y2.heap.size R0 (Nat.le_refl _) hp HF.out
 rw [hL2.out, he2.out] at CC
 refine CC.mono ?_
 rintro e y3 ⟨A5, n5, p5, rfl, hn5, hR5, hp5, hY, hO⟩
 clear CC hR5
 replace hn5 := Lh hn5
 have NIR5kC := Lh (NotIn.of_own hO kC.lt)
 have NIR5kO := Lh (NotIn.of_own hO kO.lt)
 have ON52 : Hid (OldNew w.heap.size A n A5 n5) := OldNew.own hO HB.size
 have R5 := hO.cap.2.2.2
 clear hO
 replace HB := bt HB hY
 replace kC := kC.b hY
 replace kO := kO.b hY
 replace R0 := R0.on hY hY.size
 clear hY
 go_wp2_with (first | go_skip | refine wpList_stAt rfl 30 _ _ rfl (cells := (lgC L2 (.slice A5 n5 p5)).toArray) (crC { c with lg := L2 } (.slice A5 n5 p5)) rfl rfl kC sizeLv (by show 8 + 14 ≤ 45; omega) (lg_one _) rfl ?_ | (first | refine lo_Cj kC ?_ | refine lo_cLj kC ?_ | refine lo_cJj kC ?_ | refine lo_Cj kO ?_ | refine lo_cLj kO ?_ | refine lo_cJj kO ?_))
 intro y4 kC2 pO
 replace kO := kO.put pO (Nat.ne_of_gt LTkCkO.out)
 replace R0 := R0.putS pO NIR0kC.out
 replace R5 := R5.putS pO NIR5kC.out
 replace HB := pO.below _ _ HB LEkC.out
 clear kC
 have kC := kC2
 clear kC2 pO
 have df := fun i => kC.frozen i
 have cR22 : _ = some _ := kC.cell 22
 go_upto_region 5 with (go_skip)
 clear df cR22
 have kC2 : Blk 33 _ w.heap.size (crC (cpC c L2 d) (.slice A5 n5 p5)) := kC.set_ 22 (.string d)
 have pO := put_set y4 w.heap.size (22) (.string d)
 generalize (y4.setCell ⟨w.heap.size, 22, none⟩ (.string d)) = y5 at *
 replace kO := kO.put pO (Nat.ne_of_gt LTkCkO.out)
 replace R0 := R0.putS pO NIR0kC.out
 replace R5 := R5.putS pO NIR5kC.out
 replace HB := pO.below _ _ HB LEkC.out
 clear kC
 have kC := kC2
 clear kC2 pO
 go_wp2_with (first | go_skip | refine st_C rfl _ _ rfl (cpC c L2 d) A5 n5 p5 rfl rfl _ kO rfl ?_ | (first | refine lo_Cj kC ?_ | refine lo_cLj kC ?_ | refine lo_cJj kC ?_ | refine lo_Cj kO ?_ | refine lo_cLj kO ?_ | refine lo_cJj kO ?_))
 intro y6 kO2 pO
 replace kC := kC.put pO (Nat.ne_of_lt LTkCkO.out)
 replace R0 := R0.putS pO NIR0kO.out
 replace R5 := R5.putS pO NIR5kO.out
 replace HB := pO.below _ _ HB LEkO.out
 clear kO
 have kO := kO2
 clear kO2 pO
 go_wp2_with (first | go_skip | refine lo_Cj kC ?_ | refine lo_cLj kC ?_ | refine lo_cJj kC ?_ | refine lo_Cj kO ?_ | refine lo_cLj kO ?_ | refine lo_cJj kO ?_)
 (try simp only [Exit.inBlock, Exit.then])
 refine bodyPost_ret (res2 Tryz.results32 rfl rfl (aggC _) (sizeC _) (ldCv kO)) rfl ?_
 rw [hE.out]
 exact ⟨A5, n5, p5, rfl, R5, hp5, ON52.out, HB⟩
end Go.Proofs.YtegnfkbmlalkeaaGreat.cor
