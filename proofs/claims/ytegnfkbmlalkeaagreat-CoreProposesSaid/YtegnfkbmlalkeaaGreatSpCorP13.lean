/- The landed core: takeAsk, takeVote. Conditions: those that the theorems name. -/
import Derived.Deep.RegionHeld3
import Derived.Deep.Cut
import Derived.Lib.Hide
import Derived.BigQuiet
import Derived.Test.YtegnfkbmlalkeaaGreatSpKitCl
import Derived.Test.YtegnfkbmlalkeaaGreatSpJ4
import Derived.Test.YtegnfkbmlalkeaaGreatSpJ2
import Derived.Test.YtegnfkbmlalkeaaGreatSpKitLg
import Derived.Test.YtegnfkbmlalkeaaGreatSpJ0
import Derived.Test.YtegnfkbmlalkeaaGreatSpCorJ13
import Derived.Test.YtegnfkbmlalkeaaGreatSpEntD
set_option linter.unusedVariables false
set_option maxHeartbeats 16000000
set_option maxRecDepth 10000
namespace Go.Proofs.YtegnfkbmlalkeaaGreat.cor
open Go Go.RowKit kit nums cf lg cr se
theorem vote_no {c : CoL} {m : MsL} (h : ¬ (c.ro = 1 ∧ m.y = true)) : voteF c m = (c, []) := by unfold voteF; rw [if_neg h]
def vtC (c : CoL) (f : Int) : CoL := { c with vs := withF c.vs f }
theorem vote_wait {c : CoL} {m : MsL} (h : c.ro = 1) (hy : m.y = true) (he : elJ (conC c) (withF c.vs m.f) = false) : voteF c m = (vtC c m.f, []) := by
 unfold voteF; rw [if_pos ⟨h, hy⟩]
 show (if elJ (conC c) (withF c.vs m.f) = true then winsF (vtC c m.f) else (vtC c m.f, [])) = _
 rw [if_neg (by rw [he]; decide)]
theorem vote_win {c : CoL} {m : MsL} (h : c.ro = 1) (hy : m.y = true) (he : elJ (conC c) (withF c.vs m.f) = true) : voteF c m = (winC (vtC c m.f), allF (winC (vtC c m.f))) := by
 unfold voteF; rw [if_pos ⟨h, hy⟩]
 show (if elJ (conC c) (withF c.vs m.f) = true then winsF (vtC c m.f) else (vtC c m.f, [])) = _
 rw [if_pos he]; rfl
theorem takeVote_any (c : CoL) (A : Option Addr) (n p : Nat) (m : MsL) (Am : Option Addr) (nm pm : Nat) (w : World) (B : Nat) (hR : RdE w B A n c.lg.es) (hB : B ≤ w.heap.size) (hp : n ≤ p) (hg : GoodN c 700000) (h1 : 1 ≤ c.id) (hl : lastF c.lg ≤ 2199023255550) (hv : c.vs < 65536) (hf9 : 1 ≤ m.f ∧ m.f ≤ 9) : Calls Tryz.prog 79 #[crV c (.slice A n p), msV m (.slice Am nm pm)] w fun e w' => ∃ A' n' p' v B', e = .returned (.tuple #[crV (voteF c m).1 (.slice A' n' p'), v]) ∧ RdE w' B' A' n' (voteF c m).1.lg.es ∧ n' ≤ p' ∧ OldNew w.heap.size A n A' n' ∧ OutL w' B' v (voteF c m).2 ∧ w.heap.size ≤ B' ∧ B' ≤ w'.heap.size ∧ Below w.heap.size w w' := by
 have HG := Lh hg
 have hid := Lh (show 1 ≤ c.id ∧ c.id ≤ 9 from ⟨h1, hg.2.2.2.1⟩)
 have hl2 := Lh hl
 have hvs := Lh hv
 have hV0 := Lh (fun h => vote_no (c := c) (m := m) h)
 have hV1 := Lh (fun h hy he => vote_wait (c := c) (m := m) h hy he)
 have hV2 := Lh (fun h hy he => vote_win (c := c) (m := m) h hy he)
 obtain ⟨mf, hmf⟩ : ∃ q, m.f = q := ⟨_, rfl⟩
 obtain ⟨ro, hro⟩ : ∃ q, c.ro = q := ⟨_, rfl⟩
 obtain ⟨yb, hyb⟩ : ∃ q, m.y = q := ⟨_, rfl⟩
 obtain ⟨vs2, hvs2⟩ : ∃ q, withF c.vs m.f = q := ⟨_, rfl⟩
 have hv2l := Lh (show vs2 < 65536 by rw [← hvs2]; exact withF_lt _ hv)
 obtain ⟨el, hel⟩ : ∃ q, elJ (conC c) vs2 = q := ⟨_, rfl⟩
 rw [hro, hyb] at hV0 hV1 hV2
 rw [hvs2, hel] at hV1 hV2
 rw [hmf] at hV1 hV2 hvs2
 clear hg hl hv
 replace hmf := Lh hmf
 replace hro := Lh hro
 replace hyb := Lh hyb
 replace hvs2 := Lh hvs2
 replace hel := Lh hel
 have hmf9 := Lh hf9
 rw [hmf.out] at hmf9
 have R0 := hR.more hB
 clear hR hB
 go_enter Tryz.func79, Tryz.ntmps79
 have NIR0kC := Lh (NotIn.of_rd R0 (Nat.le_refl _))
 have LEkC : Hid (w.heap.size ≤ w.heap.size) := Nat.le_refl _
 go_wp2_with (first | go_skip | refine box_C rfl _ rfl c (.slice A n p) rfl ?_ | fail)
 intro y1 kC e1 s1
 clear s1
 have HB := e1
 replace R0 := R0.on e1 e1.size
 clear e1
 have LTkCkM := Lh kC.lt
 go_wp2_with (first | go_skip | refine box_M rfl _ rfl m (.slice Am nm pm) rfl ?_ | (first | refine lo_Cj kC ?_ | refine lo_cLj kC ?_ | refine lo_cJj kC ?_))
 intro y2 kM e2 s2
 clear s2
 replace HB := bt HB e2
 replace kC := kC.b e2
 replace R0 := R0.on e2 e2.size
 clear e2
 generalize y1.heap.size = gkM at *
 have LTkCkO := Lh kC.lt
 have LTkMkO := Lh kM.lt
 have NIR0kO := Lh (NotIn.of_rd R0 (Nat.le_refl _))
 have LEkO : Hid (w.heap.size ≤ y2.heap.size) := HB.size
 go_wp2_with (first | go_skip | refine al_C rfl rfl ?_ | (first | refine lo_Cj kC ?_ | refine lo_cLj kC ?_ | refine lo_cJj kC ?_ | refine lo_Mj kM ?_ | refine lo_mJj kM ?_))
 intro y3 kO e3 s3
 clear s3
 replace kO : Blk _ _ _ (crC zC (.slice none 0 0)) := kO
 replace HB := bt HB e3
 replace kC := kC.b e3
 replace kM := kM.b e3
 replace R0 := R0.on e3 e3.size
 clear e3
 generalize y2.heap.size = gkO at *
 have c_ro : y3.cell? ⟨w.heap.size, 1, none⟩ = some (.int .i64 ro) := by rw [← hro.out]; exact kC.cell 1
 have c_y : y3.cell? ⟨gkM, 8, none⟩ = some (.bool yb) := by rw [← hyb.out]; exact kM.cell 8
 by_cases hr1 : ro = 1
 rotate_left
 ·
  have br : (ro != 1) = true := by simp [hr1]
  have hE := Lh (hV0.out (fun e => hr1 e.1))
  replace hr1 := Lh hr1
  have hO := OutL.nil y3 y3.heap.size
  have hB7 := Lh (HB.size)
  have RB := R0
  have RBz := Lh (Nat.le_refl y3.heap.size)
  have LBhOkC := Lh kC.lt
  have LBhOkM := Lh kM.lt
  have LBhOkO := Lh kO.lt
  have NIRBkO := NIR0kO
  obtain ⟨B9, hB9⟩ : ∃ q, y3.heap.size = q := ⟨_, rfl⟩
  rw [hB9] at hO hB7 RB RBz LBhOkC LBhOkM LBhOkO
  replace RBz := Lh (show B9 ≤ y3.heap.size by rw [hB9]; exact Nat.le_refl _)
  clear hB9
  go_wp2_with (first | go_skip | refine st_C rfl _ _ rfl c A n p rfl rfl _ kO rfl ?_ | (first | refine lo_Cj kC ?_ | refine lo_cLj kC ?_ | refine lo_cJj kC ?_ | refine lo_Mj kM ?_ | refine lo_mJj kM ?_ | refine lo_Cj kO ?_ | refine lo_cLj kO ?_ | refine lo_cJj kO ?_))
  intro y4 kO2 pO
  replace kC := kC.put pO (Nat.ne_of_lt LTkCkO.out)
  replace kM := kM.put pO (Nat.ne_of_lt LTkMkO.out)
  replace R0 := R0.putS pO NIR0kO.out
  replace hO := hO.put pO LBhOkO.out
  replace RB := RB.putN pO NIRBkO.out
  replace RBz := Lh (Nat.le_trans RBz.out (Nat.le_of_eq pO.size.symm))
  replace HB := pO.below _ _ HB LEkO.out
  clear kO
  have kO := kO2
  clear kO2 pO
  clear c_ro c_y
  go_wp2_with (first | go_skip | refine lo_Cj kC ?_ | refine lo_cLj kC ?_ | refine lo_cJj kC ?_ | refine lo_Mj kM ?_ | refine lo_mJj kM ?_ | refine lo_Cj kO ?_ | refine lo_cLj kO ?_ | refine lo_cJj kO ?_)
  (try simp only [Exit.inBlock, Exit.then])
  refine bodyPost_ret (res2 Tryz.results79 rfl rfl (aggC _) (sizeC _) (ldCv kO)) rfl ?_
  rw [hE.out]
  exact ⟨A, n, p, _, B9, rfl, RB, hp, OldNew.refl _ _ _, hO, hB7.out, RBz.out, HB⟩
 have br : (ro != 1) = false := by simp [hr1]
 replace hr1 := Lh hr1
 rcases yb with _ | _
 ·
  have hE := Lh (hV0.out (fun e => absurd e.2 (by decide)))
  have hO := OutL.nil y3 y3.heap.size
  have hB7 := Lh (HB.size)
  have RB := R0
  have RBz := Lh (Nat.le_refl y3.heap.size)
  have LBhOkC := Lh kC.lt
  have LBhOkM := Lh kM.lt
  have LBhOkO := Lh kO.lt
  have NIRBkO := NIR0kO
  obtain ⟨B9, hB9⟩ : ∃ q, y3.heap.size = q := ⟨_, rfl⟩
  rw [hB9] at hO hB7 RB RBz LBhOkC LBhOkM LBhOkO
  replace RBz := Lh (show B9 ≤ y3.heap.size by rw [hB9]; exact Nat.le_refl _)
  clear hB9
  go_wp2_with (first | go_skip | refine st_C rfl _ _ rfl c A n p rfl rfl _ kO rfl ?_ | (first | refine lo_Cj kC ?_ | refine lo_cLj kC ?_ | refine lo_cJj kC ?_ | refine lo_Mj kM ?_ | refine lo_mJj kM ?_ | refine lo_Cj kO ?_ | refine lo_cLj kO ?_ | refine lo_cJj kO ?_))
  intro y4 kO2 pO
  replace kC := kC.put pO (Nat.ne_of_lt LTkCkO.out)
  replace kM := kM.put pO (Nat.ne_of_lt LTkMkO.out)
  replace R0 := R0.putS pO NIR0kO.out
  replace hO := hO.put pO LBhOkO.out
  replace RB := RB.putN pO NIRBkO.out
  replace RBz := Lh (Nat.le_trans RBz.out (Nat.le_of_eq pO.size.symm))
  replace HB := pO.below _ _ HB LEkO.out
  clear kO
  have kO := kO2
  clear kO2 pO
  clear c_ro c_y
  go_wp2_with (first | go_skip | refine lo_Cj kC ?_ | refine lo_cLj kC ?_ | refine lo_cJj kC ?_ | refine lo_Mj kM ?_ | refine lo_mJj kM ?_ | refine lo_Cj kO ?_ | refine lo_cLj kO ?_ | refine lo_cJj kO ?_)
  (try simp only [Exit.inBlock, Exit.then])
  refine bodyPost_ret (res2 Tryz.results79 rfl rfl (aggC _) (sizeC _) (ldCv kO)) rfl ?_
  rw [hE.out]
  exact ⟨A, n, p, _, B9, rfl, RB, hp, OldNew.refl _ _ _, hO, hB7.out, RBz.out, HB⟩
 have cvs : y3.cell? ⟨w.heap.size, 23, none⟩ = some (.int .u16 (c.vs : Int)) := kC.cell 23
 have c_mf : y3.cell? ⟨gkM, 1, none⟩ = some (.int .i64 mf) := by rw [← hmf.out]; exact kM.cell 1
 go_wp2_with (first | go_skip | refine lo_Cj kC ?_ | refine lo_cLj kC ?_ | refine lo_cJj kC ?_ | refine lo_Mj kM ?_ | refine lo_mJj kM ?_ | refine lo_Cj kO ?_ | refine lo_cLj kO ?_ | refine lo_cJj kO ?_)
 clear c_ro c_y
 have CC := seti.with_any c.vs mf y3 hvs.out (by have := hmf9.out; omega) (by have := hmf9.out; omega)
 rw [hvs2.out] at CC
 refine (CC).mono ?_
 rintro e y4 ⟨rfl, hY⟩
 replace HB := bt HB hY
 replace kC := kC.b hY
 replace kM := kM.b hY
 replace kO := kO.b hY
 replace R0 := R0.on hY hY.size
 clear hY
 clear CC cvs c_mf
 have df := fun i => kC.frozen i
 have cR23 : _ = some _ := kC.cell 23
 go_upto_region 4 with (go_skip)
 clear df cR23
 have kC2 : Blk 33 _ w.heap.size (crC { c with vs := vs2 } (.slice A n p)) := kC.set_ 23 (.int .u16 ((vs2 : Nat) : Int))
 have pO := put_set y4 w.heap.size (23) (.int .u16 ((vs2 : Nat) : Int))
 generalize (y4.setCell ⟨w.heap.size, 23, none⟩ (.int .u16 ((vs2 : Nat) : Int))) = y5 at *
 replace kM := kM.put pO (Nat.ne_of_gt LTkCkM.out)
 replace kO := kO.put pO (Nat.ne_of_gt LTkCkO.out)
 replace R0 := R0.putS pO NIR0kC.out
 replace HB := pO.below _ _ HB LEkC.out
 clear kC
 have kC := kC2
 clear kC2 pO
 refine wp_region_held_drew (S := fun wq => At wq w.heap.size 8 (lgC c.lg (.slice A n p)) ∧ wq.cell? ⟨w.heap.size, 23, none⟩ = some (.int .u16 ((vs2 : Nat) : Int))) (by kernel_rfl) ?s_tkv4 (fun hHeld => ?_)
 case s_tkv4 => exact ⟨at_cL (c := { c with vs := vs2 }) kC, kC.cell 23⟩
 have hD := (Below.refl y5.heap.size y5).drew
 replace HB := bt HB hD
 replace kC := kC.b hD
 replace kM := kM.b hD
 replace kO := kO.b hD
 replace R0 := R0.on hD hD.size
 clear hD
 generalize y5.drew = y6 at *
 refine tj 0 _ ?_
 try simp only [Act.put, ka, kb, kc]
 refine tj 1 ((lgV c.lg (.slice A n p))) ?_ (hy := fun wq hSw => run_ldAt rfl rfl hSw.1 (aggL _) (sizeL _))
 try simp only [Act.put, ka, kb, kc]
 iterate 2 (refine tx 3 _ ?_; try simp only [Act.put, ka, kb, kc])
 refine rr [2] ?_
 refine rc (fun KQ hKQ => ?_) AllReadyH.nil
 go_simp
 have CC := enti.conf_any c.lg A n p y6 y6.heap.size R0 (Nat.le_refl _) hp HG.out.1
 refine (CC).mono ?_
 rintro e y7 ⟨rfl, hY⟩
 replace HB := bt HB hY
 replace kC := kC.b hY
 replace kM := kM.b hY
 replace kO := kO.b hY
 replace R0 := R0.on hY hY.size
 clear hY
 clear CC
 go_wp2_with fail
 refine hKQ.out _ _ (⟨at_cL (c := { c with vs := vs2 }) kC, kC.cell 23⟩) (fun _ => ?_)
 clear hKQ KQ
 try simp only [Act.put, ka, kb, kc]
 refine rr [5] ?_
 refine rc (fun KQ hKQ => ?_) AllReadyH.nil
 go_simp
 have CC := confi.elects_any (conC c) vs2 y7 HG.out.2.2.2.2.1 hv2l.out
 rw [hel.out] at CC
 refine (CC).mono ?_
 rintro e y8 ⟨rfl, hY⟩
 replace HB := bt HB hY
 replace kC := kC.b hY
 replace kM := kM.b hY
 replace kO := kO.b hY
 replace R0 := R0.on hY hY.size
 clear hY
 clear CC
 go_wp2_with fail
 refine hKQ.out _ _ (⟨at_cL (c := { c with vs := vs2 }) kC, kC.cell 23⟩) (fun _ => ?_)
 clear hKQ KQ
 try simp only [Act.put, ka, kb, kc]
 refine tj 6 _ ?_
 try simp only [Act.put, ka, kb, kc]
 refine wpAnyH_done (by kernel_rfl) ?_ _
 have hdE : { c with vs := vs2 } = vtC c mf := by rw [← hvs2.out]; rfl
 rw [hdE] at kC
 clear hdE
 rcases el with _ | _
 ·
  have hE := Lh (hV1.out hr1.out (by first | rfl | trivial) (by first | rfl | trivial))
  have hO := OutL.nil y8 y8.heap.size
  have hB7 := Lh (HB.size)
  have RB := R0
  have RBz := Lh (Nat.le_refl y8.heap.size)
  have LBhOkC := Lh kC.lt
  have LBhOkM := Lh kM.lt
  have LBhOkO := Lh kO.lt
  have NIRBkO := NIR0kO
  obtain ⟨B9, hB9⟩ : ∃ q, y8.heap.size = q := ⟨_, rfl⟩
  rw [hB9] at hO hB7 RB RBz LBhOkC LBhOkM LBhOkO
  replace RBz := Lh (show B9 ≤ y8.heap.size by rw [hB9]; exact Nat.le_refl _)
  clear hB9
  go_wp2_with (first | go_skip | refine st_C rfl _ _ rfl (vtC c mf) A n p rfl rfl _ kO rfl ?_ | (first | refine lo_Cj kC ?_ | refine lo_cLj kC ?_ | refine lo_cJj kC ?_ | refine lo_Mj kM ?_ | refine lo_mJj kM ?_ | refine lo_Cj kO ?_ | refine lo_cLj kO ?_ | refine lo_cJj kO ?_))
  intro y9 kO2 pO
  replace kC := kC.put pO (Nat.ne_of_lt LTkCkO.out)
  replace kM := kM.put pO (Nat.ne_of_lt LTkMkO.out)
  replace R0 := R0.putS pO NIR0kO.out
  replace hO := hO.put pO LBhOkO.out
  replace RB := RB.putN pO NIRBkO.out
  replace RBz := Lh (Nat.le_trans RBz.out (Nat.le_of_eq pO.size.symm))
  replace HB := pO.below _ _ HB LEkO.out
  clear kO
  have kO := kO2
  clear kO2 pO
  go_wp2_with (first | go_skip | refine lo_Cj kC ?_ | refine lo_cLj kC ?_ | refine lo_cJj kC ?_ | refine lo_Mj kM ?_ | refine lo_mJj kM ?_ | refine lo_Cj kO ?_ | refine lo_cLj kO ?_ | refine lo_cJj kO ?_)
  (try simp only [Exit.inBlock, Exit.then])
  refine bodyPost_ret (res2 Tryz.results79 rfl rfl (aggC _) (sizeC _) (ldCv kO)) rfl ?_
  rw [hE.out]
  exact ⟨A, n, p, _, B9, rfl, RB, hp, OldNew.refl _ _ _, hO, hB7.out, RBz.out, HB⟩
 have hE := Lh (hV2.out hr1.out (by first | rfl | trivial) (by first | rfl | trivial))
 go_wp2_with (first | go_skip | refine lo_Cj kC ?_ | refine lo_cLj kC ?_ | refine lo_cJj kC ?_ | refine lo_Mj kM ?_ | refine lo_mJj kM ?_ | refine lo_Cj kO ?_ | refine lo_cLj kO ?_ | refine lo_cJj kO ?_)
 refine (win_any (vtC c mf) A n p y8 y8.heap.size R0 (Nat.le_refl _) hp HG.out hid.out.1 hl2.out).mono ?_
 rintro e y9 ⟨A9, n9, p9, v9, B9, rfl, RB, hp9, ON9, hO, hB9, hB8, hY⟩
 have LBhOkC := Lh (Nat.lt_of_lt_of_le kC.lt hB9)
 have LBhOkM := Lh (Nat.lt_of_lt_of_le kM.lt hB9)
 have NIRBkO := Lh (NIR0kO.out.next ON9 kO.lt)
 have LBhOkO := Lh (Nat.lt_of_lt_of_le kO.lt hB9)
 have ON92 := Lh ((OldNew.refl w.heap.size A n).trans ON9 HB.size)
 clear ON9
 have hB7 := Lh (Nat.le_trans HB.size hB9)
 have RBz := Lh hB8
 clear hB8 hB9
 replace HB := bt HB hY
 replace kC := kC.b hY
 replace kM := kM.b hY
 replace kO := kO.b hY
 replace R0 := R0.on hY hY.size
 clear hY
 go_wp2_with (first | go_skip | refine st_C rfl _ _ rfl (winC (vtC c mf)) A9 n9 p9 rfl rfl _ kO rfl ?_ | (first | refine lo_Cj kC ?_ | refine lo_cLj kC ?_ | refine lo_cJj kC ?_ | refine lo_Mj kM ?_ | refine lo_mJj kM ?_ | refine lo_Cj kO ?_ | refine lo_cLj kO ?_ | refine lo_cJj kO ?_))
 intro y10 kO2 pO
 replace kC := kC.put pO (Nat.ne_of_lt LTkCkO.out)
 replace kM := kM.put pO (Nat.ne_of_lt LTkMkO.out)
 replace R0 := R0.putS pO NIR0kO.out
 replace hO := hO.put pO LBhOkO.out
 replace RB := RB.putN pO NIRBkO.out
 replace RBz := Lh (Nat.le_trans RBz.out (Nat.le_of_eq pO.size.symm))
 replace HB := pO.below _ _ HB LEkO.out
 clear kO
 have kO := kO2
 clear kO2 pO
 go_wp2_with (first | go_skip | refine lo_Cj kC ?_ | refine lo_cLj kC ?_ | refine lo_cJj kC ?_ | refine lo_Mj kM ?_ | refine lo_mJj kM ?_ | refine lo_Cj kO ?_ | refine lo_cLj kO ?_ | refine lo_cJj kO ?_)
 (try simp only [Exit.inBlock, Exit.then])
 refine bodyPost_ret (res2 Tryz.results79 rfl rfl (aggC _) (sizeC _) (ldCv kO)) rfl ?_
 rw [hE.out]
 exact ⟨A9, n9, p9, v9, B9, rfl, RB, hp9, ON92.out, hO, hB7.out, RBz.out, HB⟩
end Go.Proofs.YtegnfkbmlalkeaaGreat.cor
