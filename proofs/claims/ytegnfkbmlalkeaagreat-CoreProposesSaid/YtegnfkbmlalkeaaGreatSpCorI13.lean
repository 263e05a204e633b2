/- The landed core: count. Conditions: those that the theorems name. -/
import Derived.Deep.RegionHeld3
import Derived.Deep.Cut
import Derived.Lib.Hide
import Derived.Test.YtegnfkbmlalkeaaGreatSpKitCl
import Derived.Test.YtegnfkbmlalkeaaGreatSpJ5
import Derived.Test.YtegnfkbmlalkeaaGreatSpCorG13
import Derived.Test.YtegnfkbmlalkeaaGreatSpJ4
import Derived.Test.YtegnfkbmlalkeaaGreatSpConfK
import Derived.Test.YtegnfkbmlalkeaaGreatSpJ0
import Derived.Test.YtegnfkbmlalkeaaGreatSpKitLg
set_option linter.unusedVariables false
set_option maxHeartbeats 16000000
set_option maxRecDepth 10000
namespace Go.Proofs.YtegnfkbmlalkeaaGreat.cor
open Go Go.RowKit kit nums cf lg cr se
theorem mt_push {c : CoL} {x : EnL} (h : Mt c) : Mt (pushC c x) := fun k hk => by
 have h1 := h k hk
 have h2 := ref13.lastF_push c x
 have h3 : 0 ≤ lastF c.lg := by omega
 show 0 ≤ upd c.mt c.id.toNat (lastF c.lg + 1) k ∧ upd c.mt c.id.toNat (lastF c.lg + 1) k ≤ _
 rw [h2]; unfold upd
 split <;> omega
theorem end_more {d : CoL} (h : ¬ atC d.lg ≤ d.cm) : endC d = d := by unfold endC; rw [if_neg h]
theorem end_led {d : CoL} (h : atC d.lg ≤ d.cm) (hl : ledF (conC d) d.id = true) : endC d = d := by unfold endC; rw [if_pos h, if_pos hl]
theorem end_out {d : CoL} (h : atC d.lg ≤ d.cm) (hl : ledF (conC d) d.id = false) : endC d = yieC d := by unfold endC; rw [if_pos h, if_neg (by rw [hl]; decide)]
theorem cou_one {c : CoL} (h : (conC c).two = false) : couC c = endC (cntC c) := by
 unfold couC
 show (if atC (cntC c).lg ≤ (cntC c).cm ∧ (conC c).two = true then _ else _) = _
 rw [if_neg (fun e => by rw [h] at e; exact absurd e.2 (by decide))]
theorem cou_more {c : CoL} (h : ¬ atC (cntC c).lg ≤ (cntC c).cm) : couC c = cntC c := by
 unfold couC
 dsimp only
 rw [if_neg (fun e => h e.1), end_more h]
theorem cou_two {c : CoL} (h : (conC c).two = true) (ha : atC (cntC c).lg ≤ (cntC c).cm) : couC c = endC (cntC (pushC (cntC c) (fiE (conC c)))) := by
 unfold couC
 dsimp only
 rw [if_pos ⟨ha, h⟩]; rfl
theorem count_one (c : CoL) (A : Option Addr) (n p : Nat) (w : World) (B : Nat) (hR : RdE w B A n c.lg.es) (hB : B ≤ w.heap.size) (hp : n ≤ p) (hg : GoodN c 900000) (hm : Mt c) (h1 : 1 ≤ c.id) (h2 : (conC c).two = false) : Calls Tryz.prog 90 #[crV c (.slice A n p)] w fun e w' => ∃ A' n' p', e = .returned (crV (couC c) (.slice A' n' p')) ∧ RdE w' w'.heap.size A' n' (couC c).lg.es ∧ n' ≤ p' ∧ OldNew w.heap.size A n A' n' ∧ Below w.heap.size w w' := by
 have HF := Lh hg.1
 have HG := Lh hg
 have hid := Lh (show 1 ≤ c.id ∧ c.id ≤ 9 from ⟨h1, hg.2.2.2.1⟩)
 have hlen := Lh hR.len
 have hMt := Lh hm
 have hLm := leastC_lm hg.2.2.2.2.2.1 hm
 have HJ := Lh hg.2.2.2.2.1
 have hk := Lh hg.2.2.2.2.2.2
 obtain ⟨j, hj⟩ : ∃ q, conC c = q := ⟨_, rfl⟩
 rw [hj] at hLm HJ h2
 obtain ⟨lm, hlm⟩ : ∃ q, lmTo c j 9 = q := ⟨_, rfl⟩
 rw [hlm] at hLm
 obtain ⟨cm, hcm⟩ : ∃ q, seekF (cmtP c) c.cm (lastF c.lg - c.cm).toNat = q := ⟨_, rfl⟩
 obtain ⟨sf, hsf⟩ : ∃ q, c.sf = q := ⟨_, rfl⟩
 obtain ⟨sv, hsv⟩ : ∃ q, max sf lm = q := ⟨_, rfl⟩
 have hD : cntC c = { c with cm := cm, sf := sv } := by unfold cntC; rw [hcm, hLm, hsf, hsv]
 obtain ⟨d, hd⟩ : ∃ q : CoL, { c with cm := cm, sf := sv } = q := ⟨_, rfl⟩
 rw [hd] at hD
 obtain ⟨at_, hat⟩ : ∃ q, cnoF c.lg = q := ⟨_, rfl⟩
 have hdp : Hid (d.lg = c.lg ∧ d.id = c.id ∧ conC d = j ∧ d.cm = cm ∧ atC d.lg = at_) := by show _ ∧ _; rw [← hd]; exact ⟨rfl, rfl, hj, rfl, hat⟩
 clear hg hm
 replace hj := Lh hj
 replace hLm := Lh hLm
 replace hlm := Lh hlm
 replace hcm := Lh hcm
 replace hsf := Lh hsf
 replace hsv := Lh hsv
 replace hD := Lh hD
 replace hd := Lh hd
 replace hat := Lh hat
 replace h2 := Lh h2
 have R0 := hR.more hB
 clear hR hB
 go_enter Tryz.func90, Tryz.ntmps90
 have NIR0kC := Lh (NotIn.of_rd R0 (Nat.le_refl _))
 have LEkC : Hid (w.heap.size ≤ w.heap.size) := Nat.le_refl _
 go_wp2_with (first | refine box_C rfl _ rfl c (.slice A n p) rfl ?_ | fail)
 intro y1 kC e1 s1
 clear s1
 have HB := e1
 replace R0 := R0.on e1 e1.size
 clear e1
 have LTkCkO := Lh kC.lt
 have NIR0kO := Lh (NotIn.of_rd R0 (Nat.le_refl _))
 have LEkO : Hid (w.heap.size ≤ y1.heap.size) := HB.size
 go_wp2_with (first | refine al_C rfl rfl ?_ | (first | refine lo_Cj kC ?_ | refine lo_cLj kC ?_ | refine lo_cJj kC ?_))
 intro y2 kO e2 s2
 clear s2
 replace kO : Blk _ _ _ (crC zC (.slice none 0 0)) := kO
 replace HB := bt HB e2
 replace kC := kC.b e2
 replace R0 := R0.on e2 e2.size
 clear e2
 generalize y1.heap.size = gkO at *
 go_wp2_with (first | refine lo_Cj kC ?_ | refine lo_cLj kC ?_ | refine lo_cJj kC ?_ | refine lo_Cj kO ?_ | refine lo_cLj kO ?_ | refine lo_cJj kO ?_)
 have CC := enti.conf_any c.lg A n p y2 y2.heap.size R0 (Nat.le_refl _) hp HF.out
 rw [show confF c.lg.j c.lg.es = j from hj.out] at CC
 refine (CC).mono ?_
 rintro e y3 ⟨rfl, hY⟩
 replace HB := bt HB hY
 replace kC := kC.b hY
 replace kO := kO.b hY
 replace R0 := R0.on hY hY.size
 clear hY
 clear CC
 have LTkCkJ := Lh kC.lt
 have LTkOkJ := Lh kO.lt
 have NIR0kJ := Lh (NotIn.of_rd R0 (Nat.le_refl _))
 have LEkJ : Hid (w.heap.size ≤ y3.heap.size) := HB.size
 go_wp2_with (first | refine al_J rfl rfl ?_ | (first | refine lo_Cj kC ?_ | refine lo_cLj kC ?_ | refine lo_cJj kC ?_ | refine lo_Cj kO ?_ | refine lo_cLj kO ?_ | refine lo_cJj kO ?_))
 intro y4 kJ e4 s4
 clear s4
 replace kJ : Blk _ _ _ (jC zeroJ) := kJ
 replace HB := bt HB e4
 replace kC := kC.b e4
 replace kO := kO.b e4
 replace R0 := R0.on e4 e4.size
 clear e4
 generalize y3.heap.size = gkJ at *
 go_wp2_with (first | refine st_Jv rfl _ _ rfl j rfl rfl _ kJ rfl ?_ | (first | refine lo_Cj kC ?_ | refine lo_cLj kC ?_ | refine lo_cJj kC ?_ | refine lo_Cj kO ?_ | refine lo_cLj kO ?_ | refine lo_cJj kO ?_ | refine lo_Jj kJ ?_))
 intro y5 kJ2 pO
 replace kC := kC.put pO (Nat.ne_of_lt LTkCkJ.out)
 replace kO := kO.put pO (Nat.ne_of_lt LTkOkJ.out)
 replace R0 := R0.putS pO NIR0kJ.out
 replace HB := pO.below _ _ HB LEkJ.out
 clear kJ
 have kJ := kJ2
 clear kJ2 pO
 go_wp2_with (first | refine lo_Cj kC ?_ | refine lo_cLj kC ?_ | refine lo_cJj kC ?_ | refine lo_Cj kO ?_ | refine lo_cLj kO ?_ | refine lo_cJj kO ?_ | refine lo_Jj kJ ?_)
 have CC := committed_any c A n p j y5 y5.heap.size R0 (Nat.le_refl _) hp HF.out hk.out hj.out HJ.out
 rw [hcm.out] at CC
 refine (CC).mono ?_
 rintro e y6 ⟨rfl, hY⟩
 replace HB := bt HB hY
 replace kC := kC.b hY
 replace kO := kO.b hY
 replace kJ := kJ.b hY
 replace R0 := R0.on hY hY.size
 clear hY
 clear CC
 have df := fun i => kC.frozen i
 have cR6 : _ = some _ := kC.cell 6
 go_upto_region 3 with (fail)
 clear df cR6
 have kC2 : Blk 33 _ w.heap.size (crC { c with cm := cm } (.slice A n p)) := kC.set_ 6 (.int .i64 cm)
 have pO := put_set y6 w.heap.size (6) (.int .i64 cm)
 generalize (y6.setCell ⟨w.heap.size, 6, none⟩ (.int .i64 cm)) = y7 at *
 replace kO := kO.put pO (Nat.ne_of_gt LTkCkO.out)
 replace kJ := kJ.put pO (Nat.ne_of_gt LTkCkJ.out)
 replace R0 := R0.putS pO NIR0kC.out
 replace HB := pO.below _ _ HB LEkC.out
 clear kC
 have kC := kC2
 clear kC2 pO
 refine tail.region (S := fun wq => Blk 33 wq w.heap.size (crC { c with cm := cm } (.slice A n p)) ∧ Blk 27 wq gkJ (jC j) ∧ wq.cell? ⟨w.heap.size, 7, none⟩ = some (.int .i64 sf)) [7] (by kernel_rfl) (⟨kC.drew, kJ.drew, by rw [← hsf.out]; exact kC.drew.cell 7⟩) (fun hHeld => ?_)
 have hD0 := (Below.refl y7.heap.size y7).drew
 replace HB := bt HB hD0
 replace kC := kC.b hD0
 replace kO := kO.b hD0
 replace kJ := kJ.b hD0
 replace R0 := R0.on hD0 hD0.size
 clear hD0
 generalize y7.drew = y8 at *
 have sS : Blk 33 y8 w.heap.size (crC { c with cm := cm } (.slice A n p)) ∧ Blk 27 y8 gkJ (jC j) ∧ y8.cell? ⟨w.heap.size, 7, none⟩ = some (.int .i64 sf) := ⟨kC, kJ, by rw [← hsf.out]; exact kC.cell 7⟩
 refine tail.tt 0 (v := ?v_0_1) (?y_0_1) ?_
 case y_0_1 => (intro wq hSw; (try dsimp only at hSw); go_simp; first | done | with_reducible rfl)
 try simp only [Act.put, ka, kb, kc]
 refine tail.tt 1 (v := ?v_1_1) (?y_1_1) ?_
 case y_1_1 => (intro wq hSw; (try dsimp only at hSw); go_simp; first | done | with_reducible rfl)
 try simp only [Act.put, ka, kb, kc]
 refine tail.tt 2 (fun wq hSw => rld_C rfl rfl (And.left hSw)) ?_
 try simp only [Act.put, ka, kb, kc]
 refine tail.tt 3 (fun wq hSw => rld_J rfl rfl (And.left <| And.right hSw)) ?_
 try simp only [Act.put, ka, kb, kc]
 refine tail.tn 4 (fun KQ hKQ => ?_)
 go_simp
 have CC := least_any { c with cm := cm } A n p j y8 y8.heap.size R0 (Nat.le_refl _) hp HF.out HJ.out
 rw [show lmTo { c with cm := cm } j 9 = lm from hlm.out] at CC
 refine (CC).mono ?_
 rintro e y9 ⟨rfl, hY⟩
 replace HB := bt HB hY
 replace kC := kC.b hY
 replace kO := kO.b hY
 replace kJ := kJ.b hY
 replace R0 := R0.on hY hY.size
 clear hY
 clear CC sS
 have sS : Blk 33 y9 w.heap.size (crC { c with cm := cm } (.slice A n p)) ∧ Blk 27 y9 gkJ (jC j) ∧ y9.cell? ⟨w.heap.size, 7, none⟩ = some (.int .i64 sf) := ⟨kC, kJ, by rw [← hsf.out]; exact kC.cell 7⟩
 go_wp2_with fail
 refine hKQ.out _ _ ?s_4 ?_
 case s_4 => exact .inr sS
 clear hKQ KQ
 try simp only [Act.put, ka, kb, kc]
 refine tail.tt 5 (v := (.int .i64 sv)) (?y_5_1) ?_
 case y_5_1 => exact fun wq hSw => rb_maxz rfl rfl rfl rfl hsv.out
 try simp only [Act.put, ka, kb, kc]
 refine tail.tt 6 (v := ?v_6_1) (?y_6_1) ?_
 case y_6_1 => (intro wq hSw; (try dsimp only at hSw); go_simp; first | done | with_reducible rfl)
 try simp only [Act.put, ka, kb, kc]
 refine tail.tn 7 (fun KQ hKQ => ?_)
 have df := fun i => kC.frozen i
 have cR := kC.cell 7
 go_simp
 clear df cR sS
 have kC2 : Blk 33 _ w.heap.size (crC { c with cm := cm, sf := sv } (.slice A n p)) := kC.set_ 7 (.int .i64 sv)
 have pO := put_set y9 w.heap.size (7) (.int .i64 sv)
 generalize (y9.setCell ⟨w.heap.size, 7, none⟩ (.int .i64 sv)) = y10 at *
 replace kO := kO.put pO (Nat.ne_of_gt LTkCkO.out)
 replace kJ := kJ.put pO (Nat.ne_of_gt LTkCkJ.out)
 replace R0 := R0.putS pO NIR0kC.out
 replace HB := pO.below _ _ HB LEkC.out
 clear kC
 have kC := kC2
 clear kC2 pO
 refine hKQ.out _ _ ?s_7 ?_
 case s_7 => exact .inl (by decide)
 clear hKQ KQ
 try simp only [Act.put]
 refine tail.done (by kernel_rfl) ?_ _
 rw [hd.out] at kC
 by_cases h4 : at_ > cm
 ·
  have hgt := Lh h4
  clear h4
  go_upto_region 4 with (first | refine lo_Cj kC ?_ | refine lo_cLj kC ?_ | refine lo_cJj kC ?_ | refine lo_Cj kO ?_ | refine lo_cLj kO ?_ | refine lo_cJj kO ?_ | refine lo_Jj kJ ?_)
  refine wp_region_held_drew (S := fun wq => At wq w.heap.size 8 (lgC c.lg (.slice A n p)) ∧ wq.cell? ⟨w.heap.size, 6, none⟩ = some (.int .i64 cm)) (by kernel_rfl) ?s_cnt4atrue (fun hHeld => ?_)
  case s_cnt4atrue => exact ⟨(by have h := at_cL kC; rw [hdp.out.1] at h; exact h), by rw [← hdp.out.2.2.2.1]; exact kC.cell 6⟩
  have hD := (Below.refl y10.heap.size y10).drew
  replace HB := bt HB hD
  replace kC := kC.b hD
  replace kO := kO.b hD
  replace kJ := kJ.b hD
  replace R0 := R0.on hD hD.size
  clear hD
  generalize y10.drew = y11 at *
  refine tj 0 _ ?_
  try simp only [Act.put, ka, kb, kc]
  refine tj 1 ((lgV c.lg (.slice A n p))) ?_ (hy := fun wq hSw => run_ldAt rfl rfl hSw.1 (aggL _) (sizeL _))
  try simp only [Act.put, ka, kb, kc]
  iterate 2 (refine tx 3 _ ?_; try simp only [Act.put, ka, kb, kc])
  refine rr [2] ?_
  refine rc (fun KQ hKQ => ?_) AllReadyH.nil
  go_simp
  have CC := confAt_any c.lg A n p y11 y11.heap.size R0 (Nat.le_refl _) HF.out
  rw [hat.out] at CC
  refine (CC).mono ?_
  rintro e y12 ⟨rfl, hY⟩
  replace HB := bt HB hY
  replace kC := kC.b hY
  replace kO := kO.b hY
  replace kJ := kJ.b hY
  replace R0 := R0.on hY hY.size
  clear hY
  clear CC
  go_wp2_with fail
  refine hKQ.out _ _ (⟨(by have h := at_cL kC; rw [hdp.out.1] at h; exact h), by rw [← hdp.out.2.2.2.1]; exact kC.cell 6⟩) (fun _ => ?_)
  clear hKQ KQ
  try simp only [Act.put, ka, kb, kc]
  refine tj 5 ((.bool true)) ?_ (hy := fun wq hSw => rb_gtr rfl rfl rfl (decide_eq_true (by have := hgt.out; omega)))
  try simp only [Act.put, ka, kb, kc]
  refine tj 6 _ ?_
  try simp only [Act.put, ka, kb, kc]
  refine wpAnyH_done (by kernel_rfl) ?_ _
  have hE : Hid (couC c = d) := by show _ = _; rw [cou_one (by rw [hj.out]; exact h2.out), hD.out, end_more (by rw [hdp.out.2.2.2.2, hdp.out.2.2.2.1]; have := hgt.out; omega)]
  go_wp2_with (first | refine st_C rfl _ _ rfl d A n p rfl rfl _ kO rfl ?_ | (first | refine lo_Cj kC ?_ | refine lo_cLj kC ?_ | refine lo_cJj kC ?_ | refine lo_Cj kO ?_ | refine lo_cLj kO ?_ | refine lo_cJj kO ?_ | refine lo_Jj kJ ?_))
  intro y13 kO2 pO
  replace kC := kC.put pO (Nat.ne_of_lt LTkCkO.out)
  replace kJ := kJ.put pO (Nat.ne_of_gt LTkOkJ.out)
  replace R0 := R0.putS pO NIR0kO.out
  replace HB := pO.below _ _ HB LEkO.out
  clear kO
  have kO := kO2
  clear kO2 pO
  go_wp2_with (first | refine lo_Cj kC ?_ | refine lo_cLj kC ?_ | refine lo_cJj kC ?_ | refine lo_Cj kO ?_ | refine lo_cLj kO ?_ | refine lo_cJj kO ?_ | refine lo_Jj kJ ?_)
  (try simp only [Exit.inBlock, Exit.then])
  refine bodyPost_ret (res1 Tryz.results90 rfl (aggC _) (sizeC _) (ldCv kO)) rfl ?_
  rw [hE.out]
  exact ⟨A, n, p, rfl, (by rw [hdp.out.1]; exact R0), hp, OldNew.refl _ _ _, HB⟩
 ·
  have hgt := Lh h4
  clear h4
  go_upto_region 4 with (first | refine lo_Cj kC ?_ | refine lo_cLj kC ?_ | refine lo_cJj kC ?_ | refine lo_Cj kO ?_ | refine lo_cLj kO ?_ | refine lo_cJj kO ?_ | refine lo_Jj kJ ?_)
  refine wp_region_held_drew (S := fun wq => At wq w.heap.size 8 (lgC c.lg (.slice A n p)) ∧ wq.cell? ⟨w.heap.size, 6, none⟩ = some (.int .i64 cm)) (by kernel_rfl) ?s_cnt4afalse (fun hHeld => ?_)
  case s_cnt4afalse => exact ⟨(by have h := at_cL kC; rw [hdp.out.1] at h; exact h), by rw [← hdp.out.2.2.2.1]; exact kC.cell 6⟩
  have hD := (Below.refl y10.heap.size y10).drew
  replace HB := bt HB hD
  replace kC := kC.b hD
  replace kO := kO.b hD
  replace kJ := kJ.b hD
  replace R0 := R0.on hD hD.size
  clear hD
  generalize y10.drew = y11 at *
  refine tj 0 _ ?_
  try simp only [Act.put, ka, kb, kc]
  refine tj 1 ((lgV c.lg (.slice A n p))) ?_ (hy := fun wq hSw => run_ldAt rfl rfl hSw.1 (aggL _) (sizeL _))
  try simp only [Act.put, ka, kb, kc]
  iterate 2 (refine tx 3 _ ?_; try simp only [Act.put, ka, kb, kc])
  refine rr [2] ?_
  refine rc (fun KQ hKQ => ?_) AllReadyH.nil
  go_simp
  have CC := confAt_any c.lg A n p y11 y11.heap.size R0 (Nat.le_refl _) HF.out
  rw [hat.out] at CC
  refine (CC).mono ?_
  rintro e y12 ⟨rfl, hY⟩
  replace HB := bt HB hY
  replace kC := kC.b hY
  replace kO := kO.b hY
  replace kJ := kJ.b hY
  replace R0 := R0.on hY hY.size
  clear hY
  clear CC
  go_wp2_with fail
  refine hKQ.out _ _ (⟨(by have h := at_cL kC; rw [hdp.out.1] at h; exact h), by rw [← hdp.out.2.2.2.1]; exact kC.cell 6⟩) (fun _ => ?_)
  clear hKQ KQ
  try simp only [Act.put, ka, kb, kc]
  refine tj 5 ((.bool false)) ?_ (hy := fun wq hSw => rb_gtr rfl rfl rfl (decide_eq_false (by have := hgt.out; omega)))
  try simp only [Act.put, ka, kb, kc]
  refine tj 6 _ ?_
  try simp only [Act.put, ka, kb, kc]
  refine wpAnyH_done (by kernel_rfl) ?_ _
  have ctw : y12.cell? ⟨gkJ, 10, none⟩ = some (.bool j.two) := kJ.cell 10
  rw [h2.out] at ctw
  have cid : y12.cell? ⟨w.heap.size, 0, none⟩ = some (.int .i64 c.id) := by rw [← hdp.out.2.1]; exact kC.cell 0
  have ha : Hid (atC d.lg ≤ d.cm) := by show _ ≤ _; rw [hdp.out.2.2.2.2, hdp.out.2.2.2.1]; have := hgt.out; omega
  go_wp2_with (first | refine lo_Cj kC ?_ | refine lo_cLj kC ?_ | refine lo_cJj kC ?_ | refine lo_Cj kO ?_ | refine lo_cLj kO ?_ | refine lo_cJj kO ?_ | refine lo_Jj kJ ?_)
  have CC := confi.leads_any j c.id y12 HJ.out (by have := hid.out; omega) (by have := hid.out; omega)
  obtain ⟨lb, hlb⟩ : ∃ q, ledF j c.id = q := ⟨_, rfl⟩
  rw [hlb] at CC
  replace hlb := Lh hlb
  refine (CC).mono ?_
  rintro e y13 ⟨rfl, hY⟩
  replace HB := bt HB hY
  replace kC := kC.b hY
  replace kO := kO.b hY
  replace kJ := kJ.b hY
  replace R0 := R0.on hY hY.size
  clear hY
  clear CC ctw cid
  rcases lb with _ | _
  ·
   have hE : Hid (couC c = yieC d) := by show _ = _; rw [cou_one (by rw [hj.out]; exact h2.out), hD.out, end_out ha.out (by rw [hdp.out.2.2.1, hdp.out.2.1]; exact hlb.out)]
   go_wp2_with (first | refine lo_Cj kC ?_ | refine lo_cLj kC ?_ | refine lo_cJj kC ?_ | refine lo_Cj kO ?_ | refine lo_cLj kO ?_ | refine lo_cJj kO ?_ | refine lo_Jj kJ ?_)
   refine (stepDown_any d A n p y13).mono ?_
   rintro e y14 ⟨rfl, hY⟩
   replace HB := bt HB hY
   replace kC := kC.b hY
   replace kO := kO.b hY
   replace kJ := kJ.b hY
   replace R0 := R0.on hY hY.size
   clear hY
   go_wp2_with (first | refine st_C rfl _ _ rfl (yieC d) A n p rfl rfl _ kO rfl ?_ | (first | refine lo_Cj kC ?_ | refine lo_cLj kC ?_ | refine lo_cJj kC ?_ | refine lo_Cj kO ?_ | refine lo_cLj kO ?_ | refine lo_cJj kO ?_ | refine lo_Jj kJ ?_))
   intro y15 kO2 pO
   replace kC := kC.put pO (Nat.ne_of_lt LTkCkO.out)
   replace kJ := kJ.put pO (Nat.ne_of_gt LTkOkJ.out)
   replace R0 := R0.putS pO NIR0kO.out
   replace HB := pO.below _ _ HB LEkO.out
   clear kO
   have kO := kO2
   clear kO2 pO
   go_wp2_with (first | refine lo_Cj kC ?_ | refine lo_cLj kC ?_ | refine lo_cJj kC ?_ | refine lo_Cj kO ?_ | refine lo_cLj kO ?_ | refine lo_cJj kO ?_ | refine lo_Jj kJ ?_)
   (try simp only [Exit.inBlock, Exit.then])
   refine bodyPost_ret (res1 Tryz.results90 rfl (aggC _) (sizeC _) (ldCv kO)) rfl ?_
   rw [hE.out]
   exact ⟨A, n, p, rfl, (by show RdE _ _ _ _ d.lg.es; rw [hdp.out.1]; exact R0), hp, OldNew.refl _ _ _, HB⟩
  ·
   have hE : Hid (couC c = d) := by show _ = _; rw [cou_one (by rw [hj.out]; exact h2.out), hD.out, end_led ha.out (by rw [hdp.out.2.2.1, hdp.out.2.1]; exact hlb.out)]
   go_wp2_with (first | refine st_C rfl _ _ rfl d A n p rfl rfl _ kO rfl ?_ | (first | refine lo_Cj kC ?_ | refine lo_cLj kC ?_ | refine lo_cJj kC ?_ | refine lo_Cj kO ?_ | refine lo_cLj kO ?_ | refine lo_cJj kO ?_ | refine lo_Jj kJ ?_))
   intro y14 kO2 pO
   replace kC := kC.put pO (Nat.ne_of_lt LTkCkO.out)
   replace kJ := kJ.put pO (Nat.ne_of_gt LTkOkJ.out)
   replace R0 := R0.putS pO NIR0kO.out
   replace HB := pO.below _ _ HB LEkO.out
   clear kO
   have kO := kO2
   clear kO2 pO
   go_wp2_with (first | refine lo_Cj kC ?_ | refine lo_cLj kC ?_ | refine lo_cJj kC ?_ | refine lo_Cj kO ?_ | refine lo_cLj kO ?_ | refine lo_cJj kO ?_ | refine lo_Jj kJ ?_)
   (try simp only [Exit.inBlock, Exit.then])
   refine bodyPost_ret (res1 Tryz.results90 rfl (aggC _) (sizeC _) (ldCv kO)) rfl ?_
   rw [hE.out]
   exact ⟨A, n, p, rfl, (by rw [hdp.out.1]; exact R0), hp, OldNew.refl _ _ _, HB⟩
theorem count_two (c : CoL) (A : Option Addr) (n p : Nat) (w : World) (B : Nat) (hR : RdE w B A n c.lg.es) (hB : B ≤ w.heap.size) (hp : n ≤ p) (hg : GoodN c 900000) (hm : Mt c) (h1 : 1 ≤ c.id) (h2 : (conC c).two = true) (hn80 : c.lg.es.length ≤ 800000) : Calls Tryz.prog 90 #[crV c (.slice A n p)] w fun e w' => ∃ A' n' p', e = .returned (crV (couC c) (.slice A' n' p')) ∧ RdE w' w'.heap.size A' n' (couC c).lg.es ∧ n' ≤ p' ∧ OldNew w.heap.size A n A' n' ∧ Below w.heap.size w w' := by
 have HF := Lh hg.1
 have hn8 := Lh hn80
 have HG := Lh hg
 have hid := Lh (show 1 ≤ c.id ∧ c.id ≤ 9 from ⟨h1, hg.2.2.2.1⟩)
 have hlen := Lh hR.len
 have hMt := Lh hm
 have hLm := leastC_lm hg.2.2.2.2.2.1 hm
 have HJ := Lh hg.2.2.2.2.1
 have hk := Lh hg.2.2.2.2.2.2
 obtain ⟨j, hj⟩ : ∃ q, conC c = q := ⟨_, rfl⟩
 rw [hj] at hLm HJ h2
 obtain ⟨lm, hlm⟩ : ∃ q, lmTo c j 9 = q := ⟨_, rfl⟩
 rw [hlm] at hLm
 obtain ⟨cm, hcm⟩ : ∃ q, seekF (cmtP c) c.cm (lastF c.lg - c.cm).toNat = q := ⟨_, rfl⟩
 obtain ⟨sf, hsf⟩ : ∃ q, c.sf = q := ⟨_, rfl⟩
 obtain ⟨sv, hsv⟩ : ∃ q, max sf lm = q := ⟨_, rfl⟩
 have hD : cntC c = { c with cm := cm, sf := sv } := by unfold cntC; rw [hcm, hLm, hsf, hsv]
 obtain ⟨d, hd⟩ : ∃ q : CoL, { c with cm := cm, sf := sv } = q := ⟨_, rfl⟩
 rw [hd] at hD
 obtain ⟨at_, hat⟩ : ∃ q, cnoF c.lg = q := ⟨_, rfl⟩
 have hdp : Hid (d.lg = c.lg ∧ d.id = c.id ∧ conC d = j ∧ d.cm = cm ∧ atC d.lg = at_) := by show _ ∧ _; rw [← hd]; exact ⟨rfl, rfl, hj, rfl, hat⟩
 clear hg hm
 replace hj := Lh hj
 replace hLm := Lh hLm
 replace hlm := Lh hlm
 replace hcm := Lh hcm
 replace hsf := Lh hsf
 replace hsv := Lh hsv
 replace hD := Lh hD
 replace hd := Lh hd
 replace hat := Lh hat
 replace h2 := Lh h2
 have R0 := hR.more hB
 clear hR hB
 go_enter Tryz.func90, Tryz.ntmps90
 have NIR0kC := Lh (NotIn.of_rd R0 (Nat.le_refl _))
 have LEkC : Hid (w.heap.size ≤ w.heap.size) := Nat.le_refl _
 go_wp2_with (first | refine box_C rfl _ rfl c (.slice A n p) rfl ?_ | fail)
 intro y1 kC e1 s1
 clear s1
 have HB := e1
 replace R0 := R0.on e1 e1.size
 clear e1
 have LTkCkO := Lh kC.lt
 have NIR0kO := Lh (NotIn.of_rd R0 (Nat.le_refl _))
 have LEkO : Hid (w.heap.size ≤ y1.heap.size) := HB.size
 go_wp2_with (first | refine al_C rfl rfl ?_ | (first | refine lo_Cj kC ?_ | refine lo_cLj kC ?_ | refine lo_cJj kC ?_))
 intro y2 kO e2 s2
 clear s2
 replace kO : Blk _ _ _ (crC zC (.slice none 0 0)) := kO
 replace HB := bt HB e2
 replace kC := kC.b e2
 replace R0 := R0.on e2 e2.size
 clear e2
 generalize y1.heap.size = gkO at *
 go_wp2_with (first | refine lo_Cj kC ?_ | refine lo_cLj kC ?_ | refine lo_cJj kC ?_ | refine lo_Cj kO ?_ | refine lo_cLj kO ?_ | refine lo_cJj kO ?_)
 have CC := enti.conf_any c.lg A n p y2 y2.heap.size R0 (Nat.le_refl _) hp HF.out
 rw [show confF c.lg.j c.lg.es = j from hj.out] at CC
 refine (CC).mono ?_
 rintro e y3 ⟨rfl, hY⟩
 replace HB := bt HB hY
 replace kC := kC.b hY
 replace kO := kO.b hY
 replace R0 := R0.on hY hY.size
 clear hY
 clear CC
 have LTkCkJ := Lh kC.lt
 have LTkOkJ := Lh kO.lt
 have NIR0kJ := Lh (NotIn.of_rd R0 (Nat.le_refl _))
 have LEkJ : Hid (w.heap.size ≤ y3.heap.size) := HB.size
 go_wp2_with (first | refine al_J rfl rfl ?_ | (first | refine lo_Cj kC ?_ | refine lo_cLj kC ?_ | refine lo_cJj kC ?_ | refine lo_Cj kO ?_ | refine lo_cLj kO ?_ | refine lo_cJj kO ?_))
 intro y4 kJ e4 s4
 clear s4
 replace kJ : Blk _ _ _ (jC zeroJ) := kJ
 replace HB := bt HB e4
 replace kC := kC.b e4
 replace kO := kO.b e4
 replace R0 := R0.on e4 e4.size
 clear e4
 generalize y3.heap.size = gkJ at *
 go_wp2_with (first | refine st_Jv rfl _ _ rfl j rfl rfl _ kJ rfl ?_ | (first | refine lo_Cj kC ?_ | refine lo_cLj kC ?_ | refine lo_cJj kC ?_ | refine lo_Cj kO ?_ | refine lo_cLj kO ?_ | refine lo_cJj kO ?_ | refine lo_Jj kJ ?_))
 intro y5 kJ2 pO
 replace kC := kC.put pO (Nat.ne_of_lt LTkCkJ.out)
 replace kO := kO.put pO (Nat.ne_of_lt LTkOkJ.out)
 replace R0 := R0.putS pO NIR0kJ.out
 replace HB := pO.below _ _ HB LEkJ.out
 clear kJ
 have kJ := kJ2
 clear kJ2 pO
 go_wp2_with (first | refine lo_Cj kC ?_ | refine lo_cLj kC ?_ | refine lo_cJj kC ?_ | refine lo_Cj kO ?_ | refine lo_cLj kO ?_ | refine lo_cJj kO ?_ | refine lo_Jj kJ ?_)
 have CC := committed_any c A n p j y5 y5.heap.size R0 (Nat.le_refl _) hp HF.out hk.out hj.out HJ.out
 rw [hcm.out] at CC
 refine (CC).mono ?_
 rintro e y6 ⟨rfl, hY⟩
 replace HB := bt HB hY
 replace kC := kC.b hY
 replace kO := kO.b hY
 replace kJ := kJ.b hY
 replace R0 := R0.on hY hY.size
 clear hY
 clear CC
 have df := fun i => kC.frozen i
 have cR6 : _ = some _ := kC.cell 6
 go_upto_region 3 with (fail)
 clear df cR6
 have kC2 : Blk 33 _ w.heap.size (crC { c with cm := cm } (.slice A n p)) := kC.set_ 6 (.int .i64 cm)
 have pO := put_set y6 w.heap.size (6) (.int .i64 cm)
 generalize (y6.setCell ⟨w.heap.size, 6, none⟩ (.int .i64 cm)) = y7 at *
 replace kO := kO.put pO (Nat.ne_of_gt LTkCkO.out)
 replace kJ := kJ.put pO (Nat.ne_of_gt LTkCkJ.out)
 replace R0 := R0.putS pO NIR0kC.out
 replace HB := pO.below _ _ HB LEkC.out
 clear kC
 have kC := kC2
 clear kC2 pO
 refine tail.region (S := fun wq => Blk 33 wq w.heap.size (crC { c with cm := cm } (.slice A n p)) ∧ Blk 27 wq gkJ (jC j) ∧ wq.cell? ⟨w.heap.size, 7, none⟩ = some (.int .i64 sf)) [7] (by kernel_rfl) (⟨kC.drew, kJ.drew, by rw [← hsf.out]; exact kC.drew.cell 7⟩) (fun hHeld => ?_)
 have hD0 := (Below.refl y7.heap.size y7).drew
 replace HB := bt HB hD0
 replace kC := kC.b hD0
 replace kO := kO.b hD0
 replace kJ := kJ.b hD0
 replace R0 := R0.on hD0 hD0.size
 clear hD0
 generalize y7.drew = y8 at *
 have sS : Blk 33 y8 w.heap.size (crC { c with cm := cm } (.slice A n p)) ∧ Blk 27 y8 gkJ (jC j) ∧ y8.cell? ⟨w.heap.size, 7, none⟩ = some (.int .i64 sf) := ⟨kC, kJ, by rw [← hsf.out]; exact kC.cell 7⟩
 refine tail.tt 0 (v := ?v_0_4) (?y_0_4) ?_
 case y_0_4 => (intro wq hSw; (try dsimp only at hSw); go_simp; first | done | with_reducible rfl)
 try simp only [Act.put, ka, kb, kc]
 refine tail.tt 1 (v := ?v_1_4) (?y_1_4) ?_
 case y_1_4 => (intro wq hSw; (try dsimp only at hSw); go_simp; first | done | with_reducible rfl)
 try simp only [Act.put, ka, kb, kc]
 refine tail.tt 2 (fun wq hSw => rld_C rfl rfl (And.left hSw)) ?_
 try simp only [Act.put, ka, kb, kc]
 refine tail.tt 3 (fun wq hSw => rld_J rfl rfl (And.left <| And.right hSw)) ?_
 try simp only [Act.put, ka, kb, kc]
 refine tail.tn 4 (fun KQ hKQ => ?_)
 go_simp
 have CC := least_any { c with cm := cm } A n p j y8 y8.heap.size R0 (Nat.le_refl _) hp HF.out HJ.out
 rw [show lmTo { c with cm := cm } j 9 = lm from hlm.out] at CC
 refine (CC).mono ?_
 rintro e y9 ⟨rfl, hY⟩
 replace HB := bt HB hY
 replace kC := kC.b hY
 replace kO := kO.b hY
 replace kJ := kJ.b hY
 replace R0 := R0.on hY hY.size
 clear hY
 clear CC sS
 have sS : Blk 33 y9 w.heap.size (crC { c with cm := cm } (.slice A n p)) ∧ Blk 27 y9 gkJ (jC j) ∧ y9.cell? ⟨w.heap.size, 7, none⟩ = some (.int .i64 sf) := ⟨kC, kJ, by rw [← hsf.out]; exact kC.cell 7⟩
 go_wp2_with fail
 refine hKQ.out _ _ ?s_4 ?_
 case s_4 => exact .inr sS
 clear hKQ KQ
 try simp only [Act.put, ka, kb, kc]
 refine tail.tt 5 (v := (.int .i64 sv)) (?y_5_4) ?_
 case y_5_4 => exact fun wq hSw => rb_maxz rfl rfl rfl rfl hsv.out
 try simp only [Act.put, ka, kb, kc]
 refine tail.tt 6 (v := ?v_6_4) (?y_6_4) ?_
 case y_6_4 => (intro wq hSw; (try dsimp only at hSw); go_simp; first | done | with_reducible rfl)
 try simp only [Act.put, ka, kb, kc]
 refine tail.tn 7 (fun KQ hKQ => ?_)
 have df := fun i => kC.frozen i
 have cR := kC.cell 7
 go_simp
 clear df cR sS
 have kC2 : Blk 33 _ w.heap.size (crC { c with cm := cm, sf := sv } (.slice A n p)) := kC.set_ 7 (.int .i64 sv)
 have pO := put_set y9 w.heap.size (7) (.int .i64 sv)
 generalize (y9.setCell ⟨w.heap.size, 7, none⟩ (.int .i64 sv)) = y10 at *
 replace kO := kO.put pO (Nat.ne_of_gt LTkCkO.out)
 replace kJ := kJ.put pO (Nat.ne_of_gt LTkCkJ.out)
 replace R0 := R0.putS pO NIR0kC.out
 replace HB := pO.below _ _ HB LEkC.out
 clear kC
 have kC := kC2
 clear kC2 pO
 refine hKQ.out _ _ ?s_7 ?_
 case s_7 => exact .inl (by decide)
 clear hKQ KQ
 try simp only [Act.put]
 refine tail.done (by kernel_rfl) ?_ _
 rw [hd.out] at kC
 by_cases h4 : at_ > cm
 ·
  have hgt := Lh h4
  clear h4
  go_upto_region 4 with (first | refine lo_Cj kC ?_ | refine lo_cLj kC ?_ | refine lo_cJj kC ?_ | refine lo_Cj kO ?_ | refine lo_cLj kO ?_ | refine lo_cJj kO ?_ | refine lo_Jj kJ ?_)
  refine wp_region_held_drew (S := fun wq => At wq w.heap.size 8 (lgC c.lg (.slice A n p)) ∧ wq.cell? ⟨w.heap.size, 6, none⟩ = some (.int .i64 cm)) (by kernel_rfl) ?s_cnt4btrue (fun hHeld => ?_)
  case s_cnt4btrue => exact ⟨(by have h := at_cL kC; rw [hdp.out.1] at h; exact h), by rw [← hdp.out.2.2.2.1]; exact kC.cell 6⟩
  have hD := (Below.refl y10.heap.size y10).drew
  replace HB := bt HB hD
  replace kC := kC.b hD
  replace kO := kO.b hD
  replace kJ := kJ.b hD
  replace R0 := R0.on hD hD.size
  clear hD
  generalize y10.drew = y11 at *
  refine tj 0 _ ?_
  try simp only [Act.put, ka, kb, kc]
  refine tj 1 ((lgV c.lg (.slice A n p))) ?_ (hy := fun wq hSw => run_ldAt rfl rfl hSw.1 (aggL _) (sizeL _))
  try simp only [Act.put, ka, kb, kc]
  iterate 2 (refine tx 3 _ ?_; try simp only [Act.put, ka, kb, kc])
  refine rr [2] ?_
  refine rc (fun KQ hKQ => ?_) AllReadyH.nil
  go_simp
  have CC := confAt_any c.lg A n p y11 y11.heap.size R0 (Nat.le_refl _) HF.out
  rw [hat.out] at CC
  refine (CC).mono ?_
  rintro e y12 ⟨rfl, hY⟩
  replace HB := bt HB hY
  replace kC := kC.b hY
  replace kO := kO.b hY
  replace kJ := kJ.b hY
  replace R0 := R0.on hY hY.size
  clear hY
  clear CC
  go_wp2_with fail
  refine hKQ.out _ _ (⟨(by have h := at_cL kC; rw [hdp.out.1] at h; exact h), by rw [← hdp.out.2.2.2.1]; exact kC.cell 6⟩) (fun _ => ?_)
  clear hKQ KQ
  try simp only [Act.put, ka, kb, kc]
  refine tj 5 ((.bool true)) ?_ (hy := fun wq hSw => rb_gtr rfl rfl rfl (decide_eq_true (by have := hgt.out; omega)))
  try simp only [Act.put, ka, kb, kc]
  refine tj 6 _ ?_
  try simp only [Act.put, ka, kb, kc]
  refine wpAnyH_done (by kernel_rfl) ?_ _
  have hE : Hid (couC c = d) := by show _ = _; rw [cou_more (by rw [hD.out, hdp.out.2.2.2.2, hdp.out.2.2.2.1]; have := hgt.out; omega), hD.out]
  go_wp2_with (first | refine st_C rfl _ _ rfl d A n p rfl rfl _ kO rfl ?_ | (first | refine lo_Cj kC ?_ | refine lo_cLj kC ?_ | refine lo_cJj kC ?_ | refine lo_Cj kO ?_ | refine lo_cLj kO ?_ | refine lo_cJj kO ?_ | refine lo_Jj kJ ?_))
  intro y13 kO2 pO
  replace kC := kC.put pO (Nat.ne_of_lt LTkCkO.out)
  replace kJ := kJ.put pO (Nat.ne_of_gt LTkOkJ.out)
  replace R0 := R0.putS pO NIR0kO.out
  replace HB := pO.below _ _ HB LEkO.out
  clear kO
  have kO := kO2
  clear kO2 pO
  go_wp2_with (first | refine lo_Cj kC ?_ | refine lo_cLj kC ?_ | refine lo_cJj kC ?_ | refine lo_Cj kO ?_ | refine lo_cLj kO ?_ | refine lo_cJj kO ?_ | refine lo_Jj kJ ?_)
  (try simp only [Exit.inBlock, Exit.then])
  refine bodyPost_ret (res1 Tryz.results90 rfl (aggC _) (sizeC _) (ldCv kO)) rfl ?_
  rw [hE.out]
  exact ⟨A, n, p, rfl, (by rw [hdp.out.1]; exact R0), hp, OldNew.refl _ _ _, HB⟩
 ·
  have hgt := Lh h4
  clear h4
  go_upto_region 4 with (first | refine lo_Cj kC ?_ | refine lo_cLj kC ?_ | refine lo_cJj kC ?_ | refine lo_Cj kO ?_ | refine lo_cLj kO ?_ | refine lo_cJj kO ?_ | refine lo_Jj kJ ?_)
  refine wp_region_held_drew (S := fun wq => At wq w.heap.size 8 (lgC c.lg (.slice A n p)) ∧ wq.cell? ⟨w.heap.size, 6, none⟩ = some (.int .i64 cm)) (by kernel_rfl) ?s_cnt4bfalse (fun hHeld => ?_)
  case s_cnt4bfalse => exact ⟨(by have h := at_cL kC; rw [hdp.out.1] at h; exact h), by rw [← hdp.out.2.2.2.1]; exact kC.cell 6⟩
  have hD := (Below.refl y10.heap.size y10).drew
  replace HB := bt HB hD
  replace kC := kC.b hD
  replace kO := kO.b hD
  replace kJ := kJ.b hD
  replace R0 := R0.on hD hD.size
  clear hD
  generalize y10.drew = y11 at *
  refine tj 0 _ ?_
  try simp only [Act.put, ka, kb, kc]
  refine tj 1 ((lgV c.lg (.slice A n p))) ?_ (hy := fun wq hSw => run_ldAt rfl rfl hSw.1 (aggL _) (sizeL _))
  try simp only [Act.put, ka, kb, kc]
  iterate 2 (refine tx 3 _ ?_; try simp only [Act.put, ka, kb, kc])
  refine rr [2] ?_
  refine rc (fun KQ hKQ => ?_) AllReadyH.nil
  go_simp
  have CC := confAt_any c.lg A n p y11 y11.heap.size R0 (Nat.le_refl _) HF.out
  rw [hat.out] at CC
  refine (CC).mono ?_
  rintro e y12 ⟨rfl, hY⟩
  replace HB := bt HB hY
  replace kC := kC.b hY
  replace kO := kO.b hY
  replace kJ := kJ.b hY
  replace R0 := R0.on hY hY.size
  clear hY
  clear CC
  go_wp2_with fail
  refine hKQ.out _ _ (⟨(by have h := at_cL kC; rw [hdp.out.1] at h; exact h), by rw [← hdp.out.2.2.2.1]; exact kC.cell 6⟩) (fun _ => ?_)
  clear hKQ KQ
  try simp only [Act.put, ka, kb, kc]
  refine tj 5 ((.bool false)) ?_ (hy := fun wq hSw => rb_gtr rfl rfl rfl (decide_eq_false (by have := hgt.out; omega)))
  try simp only [Act.put, ka, kb, kc]
  refine tj 6 _ ?_
  try simp only [Act.put, ka, kb, kc]
  refine wpAnyH_done (by kernel_rfl) ?_ _
  have ctw : y12.cell? ⟨gkJ, 10, none⟩ = some (.bool j.two) := kJ.cell 10
  rw [h2.out] at ctw
  have ha : Hid (atC (cntC c).lg ≤ (cntC c).cm) := by show _ ≤ _; rw [hD.out, hdp.out.2.2.2.2, hdp.out.2.2.2.1]; have := hgt.out; omega
  have hE := Lh (cou_two (by rw [hj.out]; exact h2.out) ha.out)
  rw [hD.out, hj.out] at hE
  have hGd : Hid (GoodN d 800000) := by show GoodN _ _; rw [← hD.out]; exact ref13.good_cnt (by exact ⟨HG.out.1, by have := hn8.out; exact this, HG.out.2.2⟩)
  have hgf := ref13.good_fin hGd.out (by omega) (by rw [hdp.out.2.2.1]; exact h2.out)
  rw [hdp.out.2.2.1] at hgf
  have hMf : Hid (Mt (pushC d (fiE j))) := mt_push (by intro k hk; rw [← hd.out]; exact hMt.out k hk)
  have hEf := cou_one hgf.2
  rw [← hEf] at hE
  replace hgf := Lh hgf
  clear hEf
  go_upto_region 7 with (first | refine lo_Cj kC ?_ | refine lo_cLj kC ?_ | refine lo_cJj kC ?_ | refine lo_Cj kO ?_ | refine lo_cLj kO ?_ | refine lo_cJj kO ?_ | refine lo_Jj kJ ?_)
  clear ctw
  have hEn : Hid (enV (fiE j) = enV (fiE j)) := rfl
  refine wp_region_held_drew (S := fun wq => Blk 33 wq w.heap.size (crC d (.slice A n p)) ∧ Blk 27 wq gkJ (jC j)) (by kernel_rfl) ?s_cnt7 (fun hHeld => ?_)
  case s_cnt7 => exact ⟨kC, kJ⟩
  have hD := (Below.refl y12.heap.size y12).drew
  replace HB := bt HB hD
  replace kC := kC.b hD
  replace kO := kO.b hD
  replace kJ := kJ.b hD
  replace R0 := R0.on hD hD.size
  clear hD
  generalize y12.drew = y13 at *
  refine tj 0 _ ?_ (hy := fun wq hSw => rld_C rfl rfl (And.left hSw))
  try simp only [Act.put, ka, kb, kc]
  refine tj 1 _ ?_ (hy := fun wq hSw => rld_J rfl rfl (And.right hSw))
  try simp only [Act.put, ka, kb, kc]
  refine rr [2] ?_
  refine rc (fun KQ hKQ => ?_) AllReadyH.nil
  go_simp
  have CC := confi.final_any j y13
  refine (CC).mono ?_
  rintro e y14 ⟨rfl, hY⟩
  replace HB := bt HB hY
  replace kC := kC.b hY
  replace kO := kO.b hY
  replace kJ := kJ.b hY
  replace R0 := R0.on hY hY.size
  clear hY
  clear CC
  go_wp2_with fail
  refine hKQ.out _ _ (⟨kC, kJ⟩) (fun _ => ?_)
  clear hKQ KQ
  try simp only [Act.put, ka, kb, kc]
  refine tj 3 ((enV (fiE j))) ?_ (hy := fun wq hSw => rb_ej _ rfl rfl)
  try simp only [Act.put, ka, kb, kc]
  refine rr [4] ?_
  refine rc (fun KQ hKQ => ?_) AllReadyH.nil
  go_simp
  have CC := push_any d A n p (fiE j) y14 y14.heap.size (by rw [hdp.out.1]; exact R0) (Nat.le_refl _) hp hGd.out.1 (by rw [hdp.out.2.1]; exact hid.out) (by have := hGd.out.2.1; omega)
  refine (CC).mono ?_
  rintro e y15 ⟨A1, n1, p1, rfl, R1, hp1, ON1, hY⟩
  have NIR1kO := Lh (NIR0kO.out.next ON1 kO.lt)
  have ON12 := Lh ((OldNew.refl w.heap.size A n).trans ON1 HB.size)
  clear ON1
  replace HB := bt HB hY
  replace kC := kC.b hY
  replace kO := kO.b hY
  replace kJ := kJ.b hY
  replace R0 := R0.on hY hY.size
  clear hY
  clear CC
  go_wp2_with fail
  refine hKQ.out _ _ (⟨kC, kJ⟩) (fun _ => ?_)
  clear hKQ KQ
  try simp only [Act.put, ka, kb, kc]
  refine rr [5] ?_
  refine rc (fun KQ hKQ => ?_) AllReadyH.nil
  go_simp
  have CC := count_one (pushC d (fiE j)) A1 n1 p1 y15 y15.heap.size R1 (Nat.le_refl _) hp1 (ref13.good_more hgf.out.1 (by omega)) hMf.out (by show 1 ≤ d.id; rw [hdp.out.2.1]; exact hid.out.1) hgf.out.2
  refine (CC).mono ?_
  rintro e y16 ⟨A2, n2, p2, rfl, R2, hp2, ON2, hY⟩
  have NIR2kO := Lh (NIR1kO.out.next ON2 kO.lt)
  have ON22 := Lh (ON12.out.trans ON2 HB.size)
  clear ON2
  replace HB := bt HB hY
  replace kC := kC.b hY
  replace kO := kO.b hY
  replace kJ := kJ.b hY
  replace R0 := R0.on hY hY.size
  replace R1 := R1.on hY hY.size
  clear hY
  clear CC
  go_wp2_with fail
  refine hKQ.out _ _ (⟨kC, kJ⟩) (fun _ => ?_)
  clear hKQ KQ
  try simp only [Act.put, ka, kb, kc]
  refine rr [6] ?_
  refine rc (fun KQ hKQ => ?_) AllReadyH.nil
  refine step_stAt rfl 33 _ _ rfl (cells := (crC (couC (pushC d (fiE j))) (.slice A2 n2 p2)).toArray) (crC (couC (pushC d (fiE j))) (.slice A2 n2 p2)) rfl rfl kO sizeCv (by show 0 + 45 ≤ 45; omega) (cr_one _) rfl ?_
  intro y17 kO2 pO
  replace kC := kC.put pO (Nat.ne_of_lt LTkCkO.out)
  replace kJ := kJ.put pO (Nat.ne_of_gt LTkOkJ.out)
  replace R0 := R0.putS pO NIR0kO.out
  replace R1 := R1.putS pO NIR1kO.out
  replace R2 := R2.putS pO NIR2kO.out
  replace HB := pO.below _ _ HB LEkO.out
  clear kO
  have kO := kO2
  clear kO2 pO
  refine hKQ.out _ _ (⟨kC, kJ⟩) (fun _ => ?_)
  clear hKQ KQ
  try simp only [Act.put]
  refine wpAnyH_done (by kernel_rfl) ?_ _
  go_wp2_with (first | refine lo_Cj kC ?_ | refine lo_cLj kC ?_ | refine lo_cJj kC ?_ | refine lo_Cj kO ?_ | refine lo_cLj kO ?_ | refine lo_cJj kO ?_ | refine lo_Jj kJ ?_)
  (try simp only [Exit.inBlock, Exit.then])
  refine bodyPost_ret (res1 Tryz.results90 rfl (aggC _) (sizeC _) (ldCv kO)) rfl ?_
  rw [hE.out]
  exact ⟨A2, n2, p2, rfl, R2, hp2, ON22.out, HB⟩
theorem count_any (c : CoL) (A : Option Addr) (n p : Nat) (w : World) (B : Nat) (hR : RdE w B A n c.lg.es) (hB : B ≤ w.heap.size) (hp : n ≤ p) (hg : GoodN c 800000) (hm : Mt c) (h1 : 1 ≤ c.id) : Calls Tryz.prog 90 #[crV c (.slice A n p)] w fun e w' => ∃ A' n' p', e = .returned (crV (couC c) (.slice A' n' p')) ∧ RdE w' w'.heap.size A' n' (couC c).lg.es ∧ n' ≤ p' ∧ OldNew w.heap.size A n A' n' ∧ Below w.heap.size w w' := by
 cases h2 : (conC c).two with
 | false => exact count_one c A n p w B hR hB hp (ref13.good_more hg (by omega)) hm h1 h2
 | true => exact count_two c A n p w B hR hB hp (ref13.good_more hg (by omega)) hm h1 h2 hg.2.1
end Go.Proofs.YtegnfkbmlalkeaaGreat.cor
