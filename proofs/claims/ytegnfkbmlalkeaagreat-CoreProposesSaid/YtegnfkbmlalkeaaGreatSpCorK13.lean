/- The landed core: beat. Conditions: those that the theorems name. -/
import Derived.Deep.RegionHeld3
import Derived.Deep.Cut
import Derived.Lib.Hide
import Derived.Test.YtegnfkbmlalkeaaGreatSpKitCl
import Derived.Test.YtegnfkbmlalkeaaGreatSpCorI13
import Derived.Test.YtegnfkbmlalkeaaGreatSpJ5
import Derived.Test.YtegnfkbmlalkeaaGreatSpKitLg
import Derived.Test.YtegnfkbmlalkeaaGreatSpJ0
set_option linter.unusedVariables false
set_option maxHeartbeats 16000000
set_option maxRecDepth 10000
namespace Go.Proofs.YtegnfkbmlalkeaaGreat.cor
open Go Go.RowKit kit nums cf lg cr se
def btC (c : CoL) : CoL := if c.wa = 10 then (if coJ (conC c) (withF c.he c.id) then { c with he := 0, wa := 0 } else yieC c) else c
def btO (c : CoL) : List MsL := if c.wa % 2 = 0 then allF c else []
theorem bt_no {c : CoL} (h : ¬ c.wa = 10) : btC c = c := if_neg h
theorem bt_down {c : CoL} (h : c.wa = 10) (hc : coJ (conC c) (withF c.he c.id) = false) : btC c = yieC c := by unfold btC; rw [if_pos h, if_neg (by rw [hc]; decide)]
theorem bt_go {c : CoL} (h : c.wa = 10) (hc : coJ (conC c) (withF c.he c.id) = true) : btC c = { c with he := 0, wa := 0 } := by unfold btC; rw [if_pos h, if_pos hc]
theorem beat_any (c : CoL) (A : Option Addr) (n p : Nat) (w : World) (B : Nat) (hR : RdE w B A n c.lg.es) (hB : B ≤ w.heap.size) (hp : n ≤ p) (hg : GoodN c 800000) (h1 : 1 ≤ c.id) (hx : ∀ j : Nat, 1 ≤ (j : Int) → (j : Int) ≤ 9 → 0 ≤ c.nx j ∧ c.nx j ≤ 2199023255552) (hh : c.he < 65536) (hw0 : 0 ≤ c.wa) : Calls Tryz.prog 58 #[crV c (.slice A n p)] w fun e w' => ∃ A' n' p' v B', e = .returned (.tuple #[crV (btC c) (.slice A' n' p'), v]) ∧ RdE w' B' A' n' (btC c).lg.es ∧ n' ≤ p' ∧ OldNew w.heap.size A n A' n' ∧ OutL w' B' v (btO c) ∧ w.heap.size ≤ B' ∧ B' ≤ w'.heap.size ∧ Below w.heap.size w w' := by
 have HF := Lh hg.1
 have HG := Lh hg
 have hid := Lh (show 1 ≤ c.id ∧ c.id ≤ 9 from ⟨h1, hg.2.2.2.1⟩)
 have HX := Lh hx
 have HJ := Lh hg.2.2.2.2.1
 have hhe := Lh hh
 obtain ⟨wv, hwv⟩ : ∃ q, c.wa = q := ⟨_, rfl⟩
 rw [hwv] at hw0
 have hrm : Int.tmod wv 2 = wv % 2 := Int.tmod_eq_emod_of_nonneg hw0
 clear hg hx hh
 replace hwv := Lh hwv
 have R0 := hR.more hB
 clear hR hB
 go_enter Tryz.func58, Tryz.ntmps58
 have NIR0kC := Lh (NotIn.of_rd R0 (Nat.le_refl _))
 have LEkC : Hid (w.heap.size ≤ w.heap.size) := Nat.le_refl _
 go_wp2_with (first | refine box_C rfl _ rfl c (.slice A n p) rfl ?_ | fail)
 intro y1 kC e1 s1
 clear s1
 have HB := e1
 replace R0 := R0.on e1 e1.size
 clear e1
 have LTkCkO := Lh kC.lt
 have NIR0kO := Lh (NotIn.of_rd R0 (Nat.le_refl _))
 have LEkO : Hid (w.heap.size ≤ y1.heap.size) := HB.size
 go_wp2_with (first | refine al_C rfl rfl ?_ | (first | refine lo_Cj kC ?_ | refine lo_cLj kC ?_ | refine lo_cJj kC ?_))
 intro y2 kO e2 s2
 clear s2
 replace kO : Blk _ _ _ (crC zC (.slice none 0 0)) := kO
 replace HB := bt HB e2
 replace kC := kC.b e2
 replace R0 := R0.on e2 e2.size
 clear e2
 generalize y1.heap.size = gkO at *
 have cwa : y2.cell? ⟨w.heap.size, 5, none⟩ = some (.int .i64 wv) := by rw [← hwv.out]; exact kC.cell 5
 by_cases hev : wv % 2 = 0
 ·
  have hbe : (wv % 2 == 0) = true := by simp [hev]
  go_wp2_with (first | refine lo_Cj kC ?_ | refine lo_cLj kC ?_ | refine lo_cJj kC ?_ | refine lo_Cj kO ?_ | refine lo_cLj kO ?_ | refine lo_cJj kO ?_)
  clear cwa
  refine (sendAll_any c A n p y2 y2.heap.size R0 (Nat.le_refl _) hp HF.out hid.out HJ.out HX.out).mono ?_
  rintro e y3 ⟨A9, n9, c9, B9, rfl, hO, hB9, hB8, hY⟩
  have LBhOkC := Lh (Nat.lt_of_lt_of_le kC.lt hB9)
  have NIRBkC := NIR0kC
  have LBhOkO := Lh (Nat.lt_of_lt_of_le kO.lt hB9)
  have NIRBkO := NIR0kO
  have hB7 := Lh (Nat.le_trans HB.size hB9)
  have RB : RdE y3 B9 _ _ _ := (R0.below hY).more hB9
  have RBz := Lh hB8
  clear hB8 hB9
  replace HB := bt HB hY
  replace kC := kC.b hY
  replace kO := kO.b hY
  replace R0 := R0.on hY hY.size
  clear hY
  have hOb : Hid (btO c = allF c) := by show _ = _; unfold btO; rw [hwv.out, if_pos hev]
  have cwa : y3.cell? ⟨w.heap.size, 5, none⟩ = some (.int .i64 wv) := by rw [← hwv.out]; exact kC.cell 5
  by_cases h10 : wv = 10
  rotate_left
  ·
   have hb10 : (wv != 10) = true := by simp [h10]
   have hE := Lh (bt_no (c := c) (by rw [hwv.out]; exact h10))
   replace h10 := Lh h10
   go_wp2_with (first | refine st_C rfl _ _ rfl c A n p rfl rfl _ kO rfl ?_ | (first | refine lo_Cj kC ?_ | refine lo_cLj kC ?_ | refine lo_cJj kC ?_ | refine lo_Cj kO ?_ | refine lo_cLj kO ?_ | refine lo_cJj kO ?_))
   intro y4 kO2 pO
   replace kC := kC.put pO (Nat.ne_of_lt LTkCkO.out)
   replace R0 := R0.putS pO NIR0kO.out
   replace hO := hO.put pO LBhOkO.out
   replace RB := RB.putN pO NIRBkO.out
   replace RBz := Lh (Nat.le_trans RBz.out (Nat.le_of_eq pO.size.symm))
   replace HB := pO.below _ _ HB LEkO.out
   clear kO
   have kO := kO2
   clear kO2 pO
   clear cwa
   go_wp2_with (first | refine lo_Cj kC ?_ | refine lo_cLj kC ?_ | refine lo_cJj kC ?_ | refine lo_Cj kO ?_ | refine lo_cLj kO ?_ | refine lo_cJj kO ?_)
   (try simp only [Exit.inBlock, Exit.then])
   refine bodyPost_ret (res2 Tryz.results58 rfl rfl (aggC _) (sizeC _) (ldCv kO)) rfl ?_
   rw [hE.out]
   exact ⟨A, n, p, _, B9, rfl, RB, hp, OldNew.refl _ _ _, (by rw [hOb.out]; exact hO), hB7.out, RBz.out, HB⟩
  have hb10 : (wv != 10) = false := by simp [h10]
  replace h10 := Lh h10
  go_upto_region 6 with (first | refine lo_Cj kC ?_ | refine lo_cLj kC ?_ | refine lo_cJj kC ?_ | refine lo_Cj kO ?_ | refine lo_cLj kO ?_ | refine lo_cJj kO ?_)
  clear cwa
  obtain ⟨co, hco⟩ : ∃ q, coJ (conC c) (withF c.he c.id) = q := ⟨_, rfl⟩
  replace hco := Lh hco
  refine wp_region_held_drew (S := fun wq => Blk 33 wq w.heap.size (crC c (.slice A n p)) ∧ wq.cell? ⟨w.heap.size, 24, none⟩ = some (.int .u16 (c.he : Int)) ∧ wq.cell? ⟨w.heap.size, 0, none⟩ = some (.int .i64 c.id)) (by kernel_rfl) ?s_bea6a (fun hHeld => ?_)
  case s_bea6a => exact ⟨kC, kC.cell 24, kC.cell 0⟩
  have hD := (Below.refl y3.heap.size y3).drew
  replace HB := bt HB hD
  replace kC := kC.b hD
  replace kO := kO.b hD
  replace R0 := R0.on hD hD.size
  replace hO := hO.below hD
  replace RB := RB.below (hD.mono RBz.out)
  replace RBz := Lh (Nat.le_trans RBz.out hD.size)
  clear hD
  generalize y3.drew = y4 at *
  refine tj 0 _ ?_
  try simp only [Act.put, ka, kb, kc]
  refine tj 1 _ ?_ (hy := fun wq hSw => rld_cL rfl rfl (And.left hSw))
  try simp only [Act.put, ka, kb, kc]
  iterate 4 (refine tx 3 _ ?_; try simp only [Act.put, ka, kb, kc])
  refine rr [2] ?_
  refine rc (fun KQ hKQ => ?_) AllReadyH.nil
  go_simp
  have CC := enti.conf_any c.lg A n p y4 y4.heap.size R0 (Nat.le_refl _) hp HF.out
  refine (CC).mono ?_
  rintro e y5 ⟨rfl, hY⟩
  replace HB := bt HB hY
  replace kC := kC.b hY
  replace kO := kO.b hY
  replace R0 := R0.on hY hY.size
  replace hO := hO.below hY
  replace RB := RB.below (hY.mono RBz.out)
  replace RBz := Lh (Nat.le_trans RBz.out hY.size)
  clear hY
  clear CC
  go_wp2_with fail
  refine hKQ.out _ _ (⟨kC, kC.cell 24, kC.cell 0⟩) (fun _ => ?_)
  clear hKQ KQ
  try simp only [Act.put, ka, kb, kc]
  refine rr [7] ?_
  refine rc (fun KQ hKQ => ?_) AllReadyH.nil
  go_simp
  have CC := seti.with_any c.he c.id y5 hhe.out (by have := hid.out; omega) (by have := hid.out; omega)
  refine (CC).mono ?_
  rintro e y6 ⟨rfl, hY⟩
  replace HB := bt HB hY
  replace kC := kC.b hY
  replace kO := kO.b hY
  replace R0 := R0.on hY hY.size
  replace hO := hO.below hY
  replace RB := RB.below (hY.mono RBz.out)
  replace RBz := Lh (Nat.le_trans RBz.out hY.size)
  clear hY
  clear CC
  go_wp2_with fail
  refine hKQ.out _ _ (⟨kC, kC.cell 24, kC.cell 0⟩) (fun _ => ?_)
  clear hKQ KQ
  try simp only [Act.put, ka, kb, kc]
  refine rr [8] ?_
  refine rc (fun KQ hKQ => ?_) AllReadyH.nil
  go_simp
  have CC := confi.commits_any (conC c) (withF c.he c.id) y6 HJ.out (withF_lt _ hhe.out)
  rw [hco.out] at CC
  refine (CC).mono ?_
  rintro e y7 ⟨rfl, hY⟩
  replace HB := bt HB hY
  replace kC := kC.b hY
  replace kO := kO.b hY
  replace R0 := R0.on hY hY.size
  replace hO := hO.below hY
  replace RB := RB.below (hY.mono RBz.out)
  replace RBz := Lh (Nat.le_trans RBz.out hY.size)
  clear hY
  clear CC
  go_wp2_with fail
  refine hKQ.out _ _ (⟨kC, kC.cell 24, kC.cell 0⟩) (fun _ => ?_)
  clear hKQ KQ
  try simp only [Act.put, ka, kb, kc]
  refine tj 9 _ ?_
  try simp only [Act.put, ka, kb, kc]
  refine wpAnyH_done (by kernel_rfl) ?_ _
  rcases co with _ | _
  ·
   have hE := Lh (bt_down (c := c) (by rw [hwv.out]; exact h10.out) hco.out)
   go_wp2_with (first | refine lo_Cj kC ?_ | refine lo_cLj kC ?_ | refine lo_cJj kC ?_ | refine lo_Cj kO ?_ | refine lo_cLj kO ?_ | refine lo_cJj kO ?_)
   refine (stepDown_any c A n p y7).mono ?_
   rintro e y8 ⟨rfl, hY⟩
   replace HB := bt HB hY
   replace kC := kC.b hY
   replace kO := kO.b hY
   replace R0 := R0.on hY hY.size
   replace hO := hO.below hY
   replace RB := RB.below (hY.mono RBz.out)
   replace RBz := Lh (Nat.le_trans RBz.out hY.size)
   clear hY
   go_wp2_with (first | refine st_C rfl _ _ rfl (yieC c) A n p rfl rfl _ kO rfl ?_ | (first | refine lo_Cj kC ?_ | refine lo_cLj kC ?_ | refine lo_cJj kC ?_ | refine lo_Cj kO ?_ | refine lo_cLj kO ?_ | refine lo_cJj kO ?_))
   intro y9 kO2 pO
   replace kC := kC.put pO (Nat.ne_of_lt LTkCkO.out)
   replace R0 := R0.putS pO NIR0kO.out
   replace hO := hO.put pO LBhOkO.out
   replace RB := RB.putN pO NIRBkO.out
   replace RBz := Lh (Nat.le_trans RBz.out (Nat.le_of_eq pO.size.symm))
   replace HB := pO.below _ _ HB LEkO.out
   clear kO
   have kO := kO2
   clear kO2 pO
   go_wp2_with (first | refine lo_Cj kC ?_ | refine lo_cLj kC ?_ | refine lo_cJj kC ?_ | refine lo_Cj kO ?_ | refine lo_cLj kO ?_ | refine lo_cJj kO ?_)
   (try simp only [Exit.inBlock, Exit.then])
   refine bodyPost_ret (res2 Tryz.results58 rfl rfl (aggC _) (sizeC _) (ldCv kO)) rfl ?_
   rw [hE.out]
   exact ⟨A, n, p, _, B9, rfl, RB, hp, OldNew.refl _ _ _, (by rw [hOb.out]; exact hO), hB7.out, RBz.out, HB⟩
  ·
   have hE := Lh (bt_go (c := c) (by rw [hwv.out]; exact h10.out) hco.out)
   have df := fun i => kC.frozen i
   have cR24 : _ = some _ := kC.cell 24
   have cR5 : _ = some _ := kC.cell 5
   go_upto_region 9 with (fail)
   clear df cR24 cR5
   have kC2 : Blk 33 _ w.heap.size (crC { c with he := 0 } (.slice A n p)) := kC.set_ 24 (.int .u16 0)
   have pO := put_set y7 w.heap.size (24) (.int .u16 0)
   generalize (y7.setCell ⟨w.heap.size, 24, none⟩ (.int .u16 0)) = y8 at *
   replace kO := kO.put pO (Nat.ne_of_gt LTkCkO.out)
   replace R0 := R0.putS pO NIR0kC.out
   replace hO := hO.put pO LBhOkC.out
   replace RB := RB.putN pO NIRBkC.out
   replace RBz := Lh (Nat.le_trans RBz.out (Nat.le_of_eq pO.size.symm))
   replace HB := pO.below _ _ HB LEkC.out
   clear kC
   have kC := kC2
   clear kC2 pO
   have kC2 : Blk 33 _ w.heap.size (crC { c with he := 0, wa := 0 } (.slice A n p)) := kC.set_ 5 (.int .i64 0)
   have pO := put_set y8 w.heap.size (5) (.int .i64 0)
   generalize (y8.setCell ⟨w.heap.size, 5, none⟩ (.int .i64 0)) = y9 at *
   replace kO := kO.put pO (Nat.ne_of_gt LTkCkO.out)
   replace R0 := R0.putS pO NIR0kC.out
   replace hO := hO.put pO LBhOkC.out
   replace RB := RB.putN pO NIRBkC.out
   replace RBz := Lh (Nat.le_trans RBz.out (Nat.le_of_eq pO.size.symm))
   replace HB := pO.below _ _ HB LEkC.out
   clear kC
   have kC := kC2
   clear kC2 pO
   go_wp2_with (first | refine st_C rfl _ _ rfl { c with he := 0, wa := 0 } A n p rfl rfl _ kO rfl ?_ | (first | refine lo_Cj kC ?_ | refine lo_cLj kC ?_ | refine lo_cJj kC ?_ | refine lo_Cj kO ?_ | refine lo_cLj kO ?_ | refine lo_cJj kO ?_))
   intro y10 kO2 pO
   replace kC := kC.put pO (Nat.ne_of_lt LTkCkO.out)
   replace R0 := R0.putS pO NIR0kO.out
   replace hO := hO.put pO LBhOkO.out
   replace RB := RB.putN pO NIRBkO.out
   replace RBz := Lh (Nat.le_trans RBz.out (Nat.le_of_eq pO.size.symm))
   replace HB := pO.below _ _ HB LEkO.out
   clear kO
   have kO := kO2
   clear kO2 pO
   go_wp2_with (first | refine lo_Cj kC ?_ | refine lo_cLj kC ?_ | refine lo_cJj kC ?_ | refine lo_Cj kO ?_ | refine lo_cLj kO ?_ | refine lo_cJj kO ?_)
   (try simp only [Exit.inBlock, Exit.then])
   refine bodyPost_ret (res2 Tryz.results58 rfl rfl (aggC _) (sizeC _) (ldCv kO)) rfl ?_
   rw [hE.out]
   exact ⟨A, n, p, _, B9, rfl, RB, hp, OldNew.refl _ _ _, (by rw [hOb.out]; exact hO), hB7.out, RBz.out, HB⟩
 ·
  have hbe : (wv % 2 == 0) = false := by simp [hev]
  clear cwa
  have hO := OutL.nil y2 y2.heap.size
  have hB7 := Lh (HB.size)
  have RB := R0
  have RBz := Lh (Nat.le_refl y2.heap.size)
  have LBhOkC := Lh kC.lt
  have NIRBkC := NIR0kC
  have LBhOkO := Lh kO.lt
  have NIRBkO := NIR0kO
  obtain ⟨B9, hB9⟩ : ∃ q, y2.heap.size = q := ⟨_, rfl⟩
  rw [hB9] at hO hB7 RB RBz LBhOkC LBhOkO
  replace RBz := Lh (show B9 ≤ y2.heap.size by rw [hB9]; exact Nat.le_refl _)
  clear hB9
  have hOb : Hid (btO c = []) := by show _ = _; unfold btO; rw [hwv.out, if_neg hev]
  have cwa : y2.cell? ⟨w.heap.size, 5, none⟩ = some (.int .i64 wv) := by rw [← hwv.out]; exact kC.cell 5
  by_cases h10 : wv = 10
  rotate_left
  ·
   have hb10 : (wv != 10) = true := by simp [h10]
   have hE := Lh (bt_no (c := c) (by rw [hwv.out]; exact h10))
   replace h10 := Lh h10
   go_wp2_with (first | refine st_C rfl _ _ rfl c A n p rfl rfl _ kO rfl ?_ | (first | refine lo_Cj kC ?_ | refine lo_cLj kC ?_ | refine lo_cJj kC ?_ | refine lo_Cj kO ?_ | refine lo_cLj kO ?_ | refine lo_cJj kO ?_))
   intro y3 kO2 pO
   replace kC := kC.put pO (Nat.ne_of_lt LTkCkO.out)
   replace R0 := R0.putS pO NIR0kO.out
   replace hO := hO.put pO LBhOkO.out
   replace RB := RB.putN pO NIRBkO.out
   replace RBz := Lh (Nat.le_trans RBz.out (Nat.le_of_eq pO.size.symm))
   replace HB := pO.below _ _ HB LEkO.out
   clear kO
   have kO := kO2
   clear kO2 pO
   clear cwa
   go_wp2_with (first | refine lo_Cj kC ?_ | refine lo_cLj kC ?_ | refine lo_cJj kC ?_ | refine lo_Cj kO ?_ | refine lo_cLj kO ?_ | refine lo_cJj kO ?_)
   (try simp only [Exit.inBlock, Exit.then])
   refine bodyPost_ret (res2 Tryz.results58 rfl rfl (aggC _) (sizeC _) (ldCv kO)) rfl ?_
   rw [hE.out]
   exact ⟨A, n, p, _, B9, rfl, RB, hp, OldNew.refl _ _ _, (by rw [hOb.out]; exact hO), hB7.out, RBz.out, HB⟩
  exact absurd h10 (by omega)
end Go.Proofs.YtegnfkbmlalkeaaGreat.cor
