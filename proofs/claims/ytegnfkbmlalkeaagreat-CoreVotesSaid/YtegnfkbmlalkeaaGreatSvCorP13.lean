/- The landed core: takeAsk, takeVote. Conditions: those that the theorems name. -/
import Derived.Deep.RegionHeld3
import Derived.Deep.Cut
import Derived.Lib.Hide
import Derived.Test.YtegnfkbmlalkeaaGreatSvJ2
import Derived.Test.YtegnfkbmlalkeaaGreatSvCorO13
import Derived.Test.YtegnfkbmlalkeaaGreatSvCorJ13
import Derived.Test.YtegnfkbmlalkeaaGreatSvJ3
import Derived.Test.YtegnfkbmlalkeaaGreatSvKitLg
import Derived.Test.YtegnfkbmlalkeaaGreatSvJ0
namespace Go.Proofs.YtegnfkbmlalkeaaGreat.cor
open Go Go.RowKit Go.Proofs.YtegnfkbmlalkeaaGreat.kit Go.Proofs.YtegnfkbmlalkeaaGreat.nums Go.Proofs.YtegnfkbmlalkeaaGreat.cf Go.Proofs.YtegnfkbmlalkeaaGreat.lg Go.Proofs.YtegnfkbmlalkeaaGreat.cr Go.Proofs.YtegnfkbmlalkeaaGreat.se
set_option linter.unusedVariables false
def ayC (c : CoL) (f : Int) : CoL := { c with vo := f, wa := 0 }
theorem ask_yes {c : CoL} {m : MsL} (h : (c.vo = 0 ∨ c.vo = m.f) ∧ c.ro = 0 ∧ newerF c.lg m.i m.lt = true) : askF c m = (ayC c m.f, [{ letM c 2 m.f with y := true }]) := by unfold askF; dsimp only; rw [if_pos h]; rfl
theorem ask_no {c : CoL} {m : MsL} (h : ¬ ((c.vo = 0 ∨ c.vo = m.f) ∧ c.ro = 0)) (hn : newerF c.lg m.i m.lt = true) : askF c m = (c, [letM c 2 m.f]) := by unfold askF; dsimp only; rw [if_neg (fun e => h ⟨e.1, e.2.1⟩), if_pos hn]; rfl
theorem ask_lend {c : CoL} {m : MsL} (hn : newerF c.lg m.i m.lt = false) : askF c m = (c, [letM c 2 m.f, lenM c m]) := by unfold askF; dsimp only; rw [if_neg (fun e => by rw [hn] at e; exact absurd e.2.2 (by decide)), if_neg (by rw [hn]; decide)]; rfl
theorem vote_no {c : CoL} {m : MsL} (h : ¬ (c.ro = 1 ∧ m.y = true)) : voteF c m = (c, []) := by unfold voteF; rw [if_neg h]
def vtC (c : CoL) (f : Int) : CoL := { c with vs := withF c.vs f }
theorem vote_wait {c : CoL} {m : MsL} (h : c.ro = 1) (hy : m.y = true) (he : elJ (conC c) (withF c.vs m.f) = false) : voteF c m = (vtC c m.f, []) := by
 unfold voteF; rw [if_pos ⟨h, hy⟩]
 show (if elJ (conC c) (withF c.vs m.f) = true then winsF (vtC c m.f) else (vtC c m.f, [])) = _
 rw [if_neg (by rw [he]; decide)]
theorem vote_win {c : CoL} {m : MsL} (h : c.ro = 1) (hy : m.y = true) (he : elJ (conC c) (withF c.vs m.f) = true) : voteF c m = (winC (vtC c m.f), allF (winC (vtC c m.f))) := by
 unfold voteF; rw [if_pos ⟨h, hy⟩]
 show (if elJ (conC c) (withF c.vs m.f) = true then winsF (vtC c m.f) else (vtC c m.f, [])) = _
 rw [if_pos he]; rfl
set_option maxHeartbeats 4000000 in
set_option maxRecDepth 10000 in
theorem takeAsk_any (c : CoL) (A : Option Addr) (n p : Nat) (m : MsL) (Am : Option Addr) (nm pm : Nat) (w : World) (B : Nat) (hR : RdE w B A n c.lg.es) (hB : B ≤ w.heap.size) (hp : n ≤ p) (hf : Fit c.lg) (hi : 0 ≤ m.i ∧ m.i ≤ 1099511627776) (hl : c.lg.es.length ≤ 16384) : Calls Tryz.prog 78 #[crV c (.slice A n p), msV m (.slice Am nm pm)] w fun e w' => ∃ A' n' p' v B', e = .returned (.tuple #[crV (askF c m).1 (.slice A' n' p'), v]) ∧ RdE w' B' A' n' (askF c m).1.lg.es ∧ n' ≤ p' ∧ OldNew w.heap.size A n A' n' ∧ OutL w' B' v (askF c m).2 ∧ w.heap.size ≤ B' ∧ B' ≤ w'.heap.size ∧ Below w.heap.size w w' := by
 have HF := Lib.hid hf
 have hi0 := Lib.hid hi
 have hl4 := Lib.hid hl
 have hY1 := Lib.hid (fun h => ask_yes (c := c) (m := m) h)
 have hN1 := Lib.hid (fun h hn => ask_no (c := c) (m := m) h hn)
 have hL1 := Lib.hid (fun hn => ask_lend (c := c) (m := m) hn)
 obtain ⟨mf, hmf⟩ : ∃ q, m.f = q := ⟨_, rfl⟩
 obtain ⟨vo, hvo⟩ : ∃ q, c.vo = q := ⟨_, rfl⟩
 obtain ⟨ro, hro⟩ : ∃ q, c.ro = q := ⟨_, rfl⟩
 obtain ⟨nw, hnw⟩ : ∃ q, newerF c.lg m.i m.lt = q := ⟨_, rfl⟩
 rw [hmf, hvo, hro, hnw] at hY1 hN1
 rw [hmf, hnw] at hL1
 clear hf hi hl
 replace hmf := Lib.hid hmf
 replace hvo := Lib.hid hvo
 replace hro := Lib.hid hro
 replace hnw := Lib.hid hnw
 have R0 := hR.more hB
 clear hR hB
 go_enter Tryz.func78, Tryz.ntmps78
 have NIR0kC := Lib.hid (NotIn.of_rd R0 (Nat.le_refl _))
 have LEkC : Hid (w.heap.size ≤ w.heap.size) := Nat.le_refl _
 go_wp2_with (first | go_skip | refine box_C rfl _ rfl c (.slice A n p) rfl ?_ | fail)
 intro y1 kC e1 s1
 clear s1
 have HB := e1
 replace R0 := R0.on e1 e1.size
 clear e1
 have LTkCkM := Lib.hid kC.lt
 go_wp2_with (first | go_skip | refine box_M rfl _ rfl m (.slice Am nm pm) rfl ?_ | (first | refine lo_Cj kC ?_ | refine lo_cLj kC ?_ | refine lo_cJj kC ?_))
 intro y2 kM e2 s2
 clear s2
 replace HB := bt HB e2
 replace kC := kC.b e2
 replace R0 := R0.on e2 e2.size
 clear e2
 generalize y1.heap.size = gkM at *
 have LTkCkO := Lib.hid kC.lt
 have LTkMkO := Lib.hid kM.lt
 have NIR0kO := Lib.hid (NotIn.of_rd R0 (Nat.le_refl _))
 have LEkO : Hid (w.heap.size ≤ y2.heap.size) := HB.size
 go_wp2_with (first | go_skip | refine al_C rfl rfl ?_ | (first | refine lo_Cj kC ?_ | refine lo_cLj kC ?_ | refine lo_cJj kC ?_ | refine lo_Mj kM ?_ | refine lo_mJj kM ?_))
 intro y3 kO e3 s3
 clear s3
 replace kO : Blk _ _ _ (crC zC (.slice none 0 0)) := kO
 replace HB := bt HB e3
 replace kC := kC.b e3
 replace kM := kM.b e3
 replace R0 := R0.on e3 e3.size
 clear e3
 generalize y2.heap.size = gkO at *
 have ci : y3.cell? ⟨gkM, 4, none⟩ = some (.int .i64 m.i) := by exact kM.cell 4
 have cl : y3.cell? ⟨gkM, 5, none⟩ = some (.int .i64 m.lt) := by exact kM.cell 5
 go_wp2_with (first | go_skip | refine lo_Cj kC ?_ | refine lo_cLj kC ?_ | refine lo_cJj kC ?_ | refine lo_Mj kM ?_ | refine lo_mJj kM ?_ | refine lo_Cj kO ?_ | refine lo_cLj kO ?_ | refine lo_cJj kO ?_)
 clear ci cl
 have CC := enti.newer_any c.lg A n p m.i m.lt y3 y3.heap.size R0 (Nat.le_refl _) hp HF.out
 rw [hnw.out] at CC
 refine (CC).mono ?_
 rintro e y4 ⟨rfl, hY⟩
 replace HB := bt HB hY
 replace kC := kC.b hY
 replace kM := kM.b hY
 replace kO := kO.b hY
 replace R0 := R0.on hY hY.size
 clear hY
 clear CC
 have c_mf : y4.cell? ⟨gkM, 1, none⟩ = some (.int .i64 mf) := by rw [← hmf.out]; exact kM.cell 1
 go_wp2_with (first | go_skip | refine lo_Cj kC ?_ | refine lo_cLj kC ?_ | refine lo_cJj kC ?_ | refine lo_Mj kM ?_ | refine lo_mJj kM ?_ | refine lo_Cj kO ?_ | refine lo_cLj kO ?_ | refine lo_cJj kO ?_)
 clear c_mf
 refine (letter_any c A n p 2 mf y4).mono ?_
 rintro e y5 ⟨rfl, hY⟩
 replace HB := bt HB hY
 replace kC := kC.b hY
 replace kM := kM.b hY
 replace kO := kO.b hY
 replace R0 := R0.on hY hY.size
 clear hY
 have LTkCkV := Lib.hid kC.lt
 have LTkMkV := Lib.hid kM.lt
 have LTkOkV := Lib.hid kO.lt
 have NIR0kV := Lib.hid (NotIn.of_rd R0 (Nat.le_refl _))
 have LEkV : Hid (w.heap.size ≤ y5.heap.size) := HB.size
 go_wp2_with (first | go_skip | refine al_M rfl rfl ?_ | (first | refine lo_Cj kC ?_ | refine lo_cLj kC ?_ | refine lo_cJj kC ?_ | refine lo_Mj kM ?_ | refine lo_mJj kM ?_ | refine lo_Cj kO ?_ | refine lo_cLj kO ?_ | refine lo_cJj kO ?_))
 intro y6 kV e6 s6
 clear s6
 replace kV : Blk _ _ _ (msC zM (.slice none 0 0)) := kV
 replace HB := bt HB e6
 replace kC := kC.b e6
 replace kM := kM.b e6
 replace kO := kO.b e6
 replace R0 := R0.on e6 e6.size
 clear e6
 generalize y5.heap.size = gkV at *
 go_wp2_with (first | go_skip | refine st_M rfl _ _ rfl (letM c 2 mf) none 0 0 rfl rfl _ kV rfl ?_ | (first | refine lo_Cj kC ?_ | refine lo_cLj kC ?_ | refine lo_cJj kC ?_ | refine lo_Mj kM ?_ | refine lo_mJj kM ?_ | refine lo_Cj kO ?_ | refine lo_cLj kO ?_ | refine lo_cJj kO ?_ | refine lo_Mj kV ?_ | refine lo_mJj kV ?_))
 intro y7 kV2 pO
 replace kC := kC.put pO (Nat.ne_of_lt LTkCkV.out)
 replace kM := kM.put pO (Nat.ne_of_lt LTkMkV.out)
 replace kO := kO.put pO (Nat.ne_of_lt LTkOkV.out)
 replace R0 := R0.putS pO NIR0kV.out
 replace HB := pO.below _ _ HB LEkV.out
 clear kV
 have kV := kV2
 clear kV2 pO
 have c_ro : y7.cell? ⟨w.heap.size, 1, none⟩ = some (.int .i64 ro) := by rw [← hro.out]; exact kC.cell 1
 have c_vo : y7.cell? ⟨w.heap.size, 3, none⟩ = some (.int .i64 vo) := by rw [← hvo.out]; exact kC.cell 3
 have c_mf : y7.cell? ⟨gkM, 1, none⟩ = some (.int .i64 mf) := by rw [← hmf.out]; exact kM.cell 1
 rcases nw with _ | _
 rotate_left
 · skip
   by_cases hr0 : ro = 0
   · skip
     have br : (ro == 0) = true := by simp [hr0]
     replace hr0 := Lib.hid hr0
     by_cases hv0 : vo = 0
     · skip
       have bv : (vo == 0) = true := by simp [hv0]
       replace hv0 := Lib.hid hv0
       have hE := Lib.hid (hY1.out ⟨.inl hv0.out, hr0.out, rfl⟩)
       clear hY1 hN1 hL1
       have df := fun i => kV.frozen i
       have cR8 : _ = some _ := kV.cell 8
       go_upto_region 4 with (go_skip)
       clear df cR8
       have kV2 : Blk 49 _ gkV (msC { letM c 2 mf with y := true } (.slice none 0 0)) := kV.set_ 8 (.bool true)
       have pO := put_set y7 gkV (8) (.bool true)
       generalize (y7.setCell ⟨gkV, 8, none⟩ (.bool true)) = y8 at *
       replace kC := kC.put pO (Nat.ne_of_lt LTkCkV.out)
       replace kM := kM.put pO (Nat.ne_of_lt LTkMkV.out)
       replace kO := kO.put pO (Nat.ne_of_lt LTkOkV.out)
       replace R0 := R0.putS pO NIR0kV.out
       replace HB := pO.below _ _ HB LEkV.out
       clear kV
       have kV := kV2
       clear kV2 pO
       clear c_ro c_vo c_mf
       have cy : y8.cell? ⟨gkV, 8, none⟩ = some (.bool true) := by exact kV.cell 8
       have c_mf : y8.cell? ⟨gkM, 1, none⟩ = some (.int .i64 mf) := by rw [← hmf.out]; exact kM.cell 1
       have df := fun i => kC.frozen i
       have cR3 : _ = some _ := kC.cell 3
       have cR5 : _ = some _ := kC.cell 5
       go_upto_region 6 with (go_skip)
       clear df cR3 cR5
       have kC2 : Blk 33 _ w.heap.size (crC { c with vo := mf } (.slice A n p)) := kC.set_ 3 (.int .i64 mf)
       have pO := put_set y8 w.heap.size (3) (.int .i64 mf)
       generalize (y8.setCell ⟨w.heap.size, 3, none⟩ (.int .i64 mf)) = y9 at *
       replace kM := kM.put pO (Nat.ne_of_gt LTkCkM.out)
       replace kO := kO.put pO (Nat.ne_of_gt LTkCkO.out)
       replace kV := kV.put pO (Nat.ne_of_gt LTkCkV.out)
       replace R0 := R0.putS pO NIR0kC.out
       replace HB := pO.below _ _ HB LEkC.out
       clear kC
       have kC := kC2
       clear kC2 pO
       have kC2 : Blk 33 _ w.heap.size (crC (ayC c mf) (.slice A n p)) := kC.set_ 5 (.int .i64 0)
       have pO := put_set y9 w.heap.size (5) (.int .i64 0)
       generalize (y9.setCell ⟨w.heap.size, 5, none⟩ (.int .i64 0)) = y10 at *
       replace kM := kM.put pO (Nat.ne_of_gt LTkCkM.out)
       replace kO := kO.put pO (Nat.ne_of_gt LTkCkO.out)
       replace kV := kV.put pO (Nat.ne_of_gt LTkCkV.out)
       replace R0 := R0.putS pO NIR0kC.out
       replace HB := pO.below _ _ HB LEkC.out
       clear kC
       have kC := kC2
       clear kC2 pO
       clear cy c_mf
       go_upto_region 7 with (first | go_skip | refine lo_Cj kC ?_ | refine lo_cLj kC ?_ | refine lo_cJj kC ?_ | refine lo_Mj kM ?_ | refine lo_mJj kM ?_ | refine lo_Cj kO ?_ | refine lo_cLj kO ?_ | refine lo_cJj kO ?_ | refine lo_Mj kV ?_ | refine lo_mJj kV ?_)
       refine wp_region_held_drew (S := fun wq => Blk 33 wq w.heap.size (crC (ayC c mf) (.slice A n p)) ∧ Blk 49 wq gkV (msC { letM c 2 mf with y := true } (.slice none 0 0))) (by kernel_rfl) ?s_tka7a (fun hHeld => ?_)
       case s_tka7a => exact ⟨kC, kV⟩
       have hD := (Below.refl y10.heap.size y10).drew
       replace HB := bt HB hD
       replace kC := kC.b hD
       replace kM := kM.b hD
       replace kO := kO.b hD
       replace kV := kV.b hD
       replace R0 := R0.on hD hD.size
       clear hD
       generalize y10.drew = yq at *
       refine tj 0 _ ?_ (hy := fun wq hSw => rld_C rfl rfl (And.left hSw))
       try simp only [Act.put, ka, kb, kc]
       refine tj 1 _ ?_ (hy := fun wq hSw => rld_M rfl rfl (And.right hSw))
       try simp only [Act.put, ka, kb, kc]
       refine rr [2, 3] ?_
       refine rc (fun KQ hKQ => ?_) (rc (fun KQ hKQ => ?_) (AllReadyH.nil))
       · refine step_bsR rfl _ 38 rfl _ rfl _ (run_bsM2 ({ letM c 2 mf with y := true }) (.slice none 0 0) yq) ?_
         rintro v yq2 ⟨rfl, kB, hX⟩
         have hO := OutL.one (B := yq.heap.size) kB (OwnE.nil _ _) (Nat.le_refl _)
         have LBhOkC := Lib.hid kC.lt
         have LBhOkM := Lib.hid kM.lt
         have LBhOkO := Lib.hid kO.lt
         have NIRBkO := NIR0kO
         have LBhOkV := Lib.hid kV.lt
         have RB := R0.below hX
         have hB7 := Lib.hid HB.size
         have RBz := Lib.hid hX.size
         clear kB
         replace HB := bt HB hX
         replace kC := kC.b hX
         replace kM := kM.b hX
         replace kO := kO.b hX
         replace kV := kV.b hX
         replace R0 := R0.on hX hX.size
         clear hX
         generalize yq.heap.size = B9 at *
         obtain ⟨yq, hyq⟩ : ∃ z, z = yq2 := ⟨_, rfl⟩
         subst hyq
         refine hKQ.out _ _ (⟨kC, kV⟩) (fun _ => ?_)
         clear hKQ KQ
         try simp only [Act.put, ka, kb, kc]
         refine rr [3] ?_
         refine rc (fun KQ hKQ => ?_) AllReadyH.nil
         refine step_stAt rfl 33 _ _ rfl (cells := (crC (ayC c mf) (.slice A n p)).toArray) (crC (ayC c mf) (.slice A n p)) rfl rfl kO sizeCv (by show 0 + 45 ≤ 45; omega) (cr_one _) rfl ?_
         intro yq2 kO2 pO
         try replace hO := hO.put pO LBhOkO.out
         try replace RB := RB.putN pO NIRBkO.out
         try replace RBz := Lib.hid (Nat.le_trans RBz.out (Nat.le_of_eq pO.size.symm))
         try replace hE7 := Lib.hid (hE7.out.put pO LBhOkO.out)
         replace kC := kC.put pO (Nat.ne_of_lt LTkCkO.out)
         replace kM := kM.put pO (Nat.ne_of_lt LTkMkO.out)
         replace kV := kV.put pO (Nat.ne_of_gt LTkOkV.out)
         replace R0 := R0.putS pO NIR0kO.out
         replace HB := pO.below _ _ HB LEkO.out
         clear kO
         have kO := kO2
         clear kO2 pO
         obtain ⟨yq, hyq⟩ : ∃ z, z = yq2 := ⟨_, rfl⟩
         subst hyq
         refine hKQ.out _ _ (⟨kC, kV⟩) (fun _ => ?_)
         clear hKQ KQ
         try simp only [Act.put]
         refine tj 4 _ ?_
         try simp only [Act.put, ka, kb, kc]
         refine wpAnyH_done (by kernel_rfl) ?_ _
         simp only [Exit.then]
         refine (‹∀ (a : Act) (w : World), Code.wp _ Code.ret _ a w → _›) _ _ (wp_ret ?_)
         (try simp only [Exit.inBlock]); (try simp only [Exit.then])
         show bodyPost _ _ _ Exit.ret _ _
         refine bodyPost_ret (res2 Tryz.results78 rfl rfl (aggC _) (sizeC _) (ldCv kO)) rfl ?_
         rw [hE.out]
         first | exact ⟨A, n, p, _, B9, rfl, RB, hp, OldNew.refl _ _ _, hO, hB7.out, RBz.out, HB⟩ | exact ⟨A, n, p, _, rfl, B9, RB, hp, OldNew.refl _ _ _, hO, hB7.out, RBz.out, HB⟩
       · refine step_stAt rfl 33 _ _ rfl (cells := (crC (ayC c mf) (.slice A n p)).toArray) (crC (ayC c mf) (.slice A n p)) rfl rfl kO sizeCv (by show 0 + 45 ≤ 45; omega) (cr_one _) rfl ?_
         intro yq2 kO2 pO
         try replace hO := hO.put pO LBhOkO.out
         try replace RB := RB.putN pO NIRBkO.out
         try replace RBz := Lib.hid (Nat.le_trans RBz.out (Nat.le_of_eq pO.size.symm))
         try replace hE7 := Lib.hid (hE7.out.put pO LBhOkO.out)
         replace kC := kC.put pO (Nat.ne_of_lt LTkCkO.out)
         replace kM := kM.put pO (Nat.ne_of_lt LTkMkO.out)
         replace kV := kV.put pO (Nat.ne_of_gt LTkOkV.out)
         replace R0 := R0.putS pO NIR0kO.out
         replace HB := pO.below _ _ HB LEkO.out
         clear kO
         have kO := kO2
         clear kO2 pO
         obtain ⟨yq, hyq⟩ : ∃ z, z = yq2 := ⟨_, rfl⟩
         subst hyq
         refine hKQ.out _ _ (⟨kC, kV⟩) (fun _ => ?_)
         clear hKQ KQ
         try simp only [Act.put]
         refine rr [2] ?_
         refine rc (fun KQ hKQ => ?_) AllReadyH.nil
         refine step_bsR rfl _ 38 rfl _ rfl _ (run_bsM2 ({ letM c 2 mf with y := true }) (.slice none 0 0) yq) ?_
         rintro v yq2 ⟨rfl, kB, hX⟩
         have hO := OutL.one (B := yq.heap.size) kB (OwnE.nil _ _) (Nat.le_refl _)
         have LBhOkC := Lib.hid kC.lt
         have LBhOkM := Lib.hid kM.lt
         have LBhOkO := Lib.hid kO.lt
         have NIRBkO := NIR0kO
         have LBhOkV := Lib.hid kV.lt
         have RB := R0.below hX
         have hB7 := Lib.hid HB.size
         have RBz := Lib.hid hX.size
         clear kB
         replace HB := bt HB hX
         replace kC := kC.b hX
         replace kM := kM.b hX
         replace kO := kO.b hX
         replace kV := kV.b hX
         replace R0 := R0.on hX hX.size
         clear hX
         generalize yq.heap.size = B9 at *
         obtain ⟨yq, hyq⟩ : ∃ z, z = yq2 := ⟨_, rfl⟩
         subst hyq
         refine hKQ.out _ _ (⟨kC, kV⟩) (fun _ => ?_)
         clear hKQ KQ
         try simp only [Act.put, ka, kb, kc]
         refine tj 4 _ ?_
         try simp only [Act.put, ka, kb, kc]
         refine wpAnyH_done (by kernel_rfl) ?_ _
         simp only [Exit.then]
         refine (‹∀ (a : Act) (w : World), Code.wp _ Code.ret _ a w → _›) _ _ (wp_ret ?_)
         (try simp only [Exit.inBlock]); (try simp only [Exit.then])
         show bodyPost _ _ _ Exit.ret _ _
         refine bodyPost_ret (res2 Tryz.results78 rfl rfl (aggC _) (sizeC _) (ldCv kO)) rfl ?_
         rw [hE.out]
         first | exact ⟨A, n, p, _, B9, rfl, RB, hp, OldNew.refl _ _ _, hO, hB7.out, RBz.out, HB⟩ | exact ⟨A, n, p, _, rfl, B9, RB, hp, OldNew.refl _ _ _, hO, hB7.out, RBz.out, HB⟩
     have bv : (vo == 0) = false := by simp [hv0]
     replace hv0 := Lib.hid hv0
     by_cases hvm : vo = mf
     · skip
       have bm : (vo == mf) = true := by simp [hvm]
       replace hvm := Lib.hid hvm
       have hE := Lib.hid (hY1.out ⟨.inr hvm.out, hr0.out, rfl⟩)
       clear hY1 hN1 hL1
       have df := fun i => kV.frozen i
       have cR8 : _ = some _ := kV.cell 8
       go_upto_region 4 with (go_skip)
       clear df cR8
       have kV2 : Blk 49 _ gkV (msC { letM c 2 mf with y := true } (.slice none 0 0)) := kV.set_ 8 (.bool true)
       have pO := put_set y7 gkV (8) (.bool true)
       generalize (y7.setCell ⟨gkV, 8, none⟩ (.bool true)) = y8 at *
       replace kC := kC.put pO (Nat.ne_of_lt LTkCkV.out)
       replace kM := kM.put pO (Nat.ne_of_lt LTkMkV.out)
       replace kO := kO.put pO (Nat.ne_of_lt LTkOkV.out)
       replace R0 := R0.putS pO NIR0kV.out
       replace HB := pO.below _ _ HB LEkV.out
       clear kV
       have kV := kV2
       clear kV2 pO
       clear c_ro c_vo c_mf
       have cy : y8.cell? ⟨gkV, 8, none⟩ = some (.bool true) := by exact kV.cell 8
       have c_mf : y8.cell? ⟨gkM, 1, none⟩ = some (.int .i64 mf) := by rw [← hmf.out]; exact kM.cell 1
       have df := fun i => kC.frozen i
       have cR3 : _ = some _ := kC.cell 3
       have cR5 : _ = some _ := kC.cell 5
       go_upto_region 6 with (go_skip)
       clear df cR3 cR5
       have kC2 : Blk 33 _ w.heap.size (crC { c with vo := mf } (.slice A n p)) := kC.set_ 3 (.int .i64 mf)
       have pO := put_set y8 w.heap.size (3) (.int .i64 mf)
       generalize (y8.setCell ⟨w.heap.size, 3, none⟩ (.int .i64 mf)) = y9 at *
       replace kM := kM.put pO (Nat.ne_of_gt LTkCkM.out)
       replace kO := kO.put pO (Nat.ne_of_gt LTkCkO.out)
       replace kV := kV.put pO (Nat.ne_of_gt LTkCkV.out)
       replace R0 := R0.putS pO NIR0kC.out
       replace HB := pO.below _ _ HB LEkC.out
       clear kC
       have kC := kC2
       clear kC2 pO
       have kC2 : Blk 33 _ w.heap.size (crC (ayC c mf) (.slice A n p)) := kC.set_ 5 (.int .i64 0)
       have pO := put_set y9 w.heap.size (5) (.int .i64 0)
       generalize (y9.setCell ⟨w.heap.size, 5, none⟩ (.int .i64 0)) = y10 at *
       replace kM := kM.put pO (Nat.ne_of_gt LTkCkM.out)
       replace kO := kO.put pO (Nat.ne_of_gt LTkCkO.out)
       replace kV := kV.put pO (Nat.ne_of_gt LTkCkV.out)
       replace R0 := R0.putS pO NIR0kC.out
       replace HB := pO.below _ _ HB LEkC.out
       clear kC
       have kC := kC2
       clear kC2 pO
       clear cy c_mf
       go_upto_region 7 with (first | go_skip | refine lo_Cj kC ?_ | refine lo_cLj kC ?_ | refine lo_cJj kC ?_ | refine lo_Mj kM ?_ | refine lo_mJj kM ?_ | refine lo_Cj kO ?_ | refine lo_cLj kO ?_ | refine lo_cJj kO ?_ | refine lo_Mj kV ?_ | refine lo_mJj kV ?_)
       refine wp_region_held_drew (S := fun wq => Blk 33 wq w.heap.size (crC (ayC c mf) (.slice A n p)) ∧ Blk 49 wq gkV (msC { letM c 2 mf with y := true } (.slice none 0 0))) (by kernel_rfl) ?s_tka7b (fun hHeld => ?_)
       case s_tka7b => exact ⟨kC, kV⟩
       have hD := (Below.refl y10.heap.size y10).drew
       replace HB := bt HB hD
       replace kC := kC.b hD
       replace kM := kM.b hD
       replace kO := kO.b hD
       replace kV := kV.b hD
       replace R0 := R0.on hD hD.size
       clear hD
       generalize y10.drew = yq at *
       refine tj 0 _ ?_ (hy := fun wq hSw => rld_C rfl rfl (And.left hSw))
       try simp only [Act.put, ka, kb, kc]
       refine tj 1 _ ?_ (hy := fun wq hSw => rld_M rfl rfl (And.right hSw))
       try simp only [Act.put, ka, kb, kc]
       refine rr [2, 3] ?_
       refine rc (fun KQ hKQ => ?_) (rc (fun KQ hKQ => ?_) (AllReadyH.nil))
       · refine step_bsR rfl _ 38 rfl _ rfl _ (run_bsM2 ({ letM c 2 mf with y := true }) (.slice none 0 0) yq) ?_
         rintro v yq2 ⟨rfl, kB, hX⟩
         have hO := OutL.one (B := yq.heap.size) kB (OwnE.nil _ _) (Nat.le_refl _)
         have LBhOkC := Lib.hid kC.lt
         have LBhOkM := Lib.hid kM.lt
         have LBhOkO := Lib.hid kO.lt
         have NIRBkO := NIR0kO
         have LBhOkV := Lib.hid kV.lt
         have RB := R0.below hX
         have hB7 := Lib.hid HB.size
         have RBz := Lib.hid hX.size
         clear kB
         replace HB := bt HB hX
         replace kC := kC.b hX
         replace kM := kM.b hX
         replace kO := kO.b hX
         replace kV := kV.b hX
         replace R0 := R0.on hX hX.size
         clear hX
         generalize yq.heap.size = B9 at *
         obtain ⟨yq, hyq⟩ : ∃ z, z = yq2 := ⟨_, rfl⟩
         subst hyq
         refine hKQ.out _ _ (⟨kC, kV⟩) (fun _ => ?_)
         clear hKQ KQ
         try simp only [Act.put, ka, kb, kc]
         refine rr [3] ?_
         refine rc (fun KQ hKQ => ?_) AllReadyH.nil
         refine step_stAt rfl 33 _ _ rfl (cells := (crC (ayC c mf) (.slice A n p)).toArray) (crC (ayC c mf) (.slice A n p)) rfl rfl kO sizeCv (by show 0 + 45 ≤ 45; omega) (cr_one _) rfl ?_
         intro yq2 kO2 pO
         try replace hO := hO.put pO LBhOkO.out
         try replace RB := RB.putN pO NIRBkO.out
         try replace RBz := Lib.hid (Nat.le_trans RBz.out (Nat.le_of_eq pO.size.symm))
         try replace hE7 := Lib.hid (hE7.out.put pO LBhOkO.out)
         replace kC := kC.put pO (Nat.ne_of_lt LTkCkO.out)
         replace kM := kM.put pO (Nat.ne_of_lt LTkMkO.out)
         replace kV := kV.put pO (Nat.ne_of_gt LTkOkV.out)
         replace R0 := R0.putS pO NIR0kO.out
         replace HB := pO.below _ _ HB LEkO.out
         clear kO
         have kO := kO2
         clear kO2 pO
         obtain ⟨yq, hyq⟩ : ∃ z, z = yq2 := ⟨_, rfl⟩
         subst hyq
         refine hKQ.out _ _ (⟨kC, kV⟩) (fun _ => ?_)
         clear hKQ KQ
         try simp only [Act.put]
         refine tj 4 _ ?_
         try simp only [Act.put, ka, kb, kc]
         refine wpAnyH_done (by kernel_rfl) ?_ _
         simp only [Exit.then]
         refine (‹∀ (a : Act) (w : World), Code.wp _ Code.ret _ a w → _›) _ _ (wp_ret ?_)
         (try simp only [Exit.inBlock]); (try simp only [Exit.then])
         show bodyPost _ _ _ Exit.ret _ _
         refine bodyPost_ret (res2 Tryz.results78 rfl rfl (aggC _) (sizeC _) (ldCv kO)) rfl ?_
         rw [hE.out]
         first | exact ⟨A, n, p, _, B9, rfl, RB, hp, OldNew.refl _ _ _, hO, hB7.out, RBz.out, HB⟩ | exact ⟨A, n, p, _, rfl, B9, RB, hp, OldNew.refl _ _ _, hO, hB7.out, RBz.out, HB⟩
       · refine step_stAt rfl 33 _ _ rfl (cells := (crC (ayC c mf) (.slice A n p)).toArray) (crC (ayC c mf) (.slice A n p)) rfl rfl kO sizeCv (by show 0 + 45 ≤ 45; omega) (cr_one _) rfl ?_
         intro yq2 kO2 pO
         try replace hO := hO.put pO LBhOkO.out
         try replace RB := RB.putN pO NIRBkO.out
         try replace RBz := Lib.hid (Nat.le_trans RBz.out (Nat.le_of_eq pO.size.symm))
         try replace hE7 := Lib.hid (hE7.out.put pO LBhOkO.out)
         replace kC := kC.put pO (Nat.ne_of_lt LTkCkO.out)
         replace kM := kM.put pO (Nat.ne_of_lt LTkMkO.out)
         replace kV := kV.put pO (Nat.ne_of_gt LTkOkV.out)
         replace R0 := R0.putS pO NIR0kO.out
         replace HB := pO.below _ _ HB LEkO.out
         clear kO
         have kO := kO2
         clear kO2 pO
         obtain ⟨yq, hyq⟩ : ∃ z, z = yq2 := ⟨_, rfl⟩
         subst hyq
         refine hKQ.out _ _ (⟨kC, kV⟩) (fun _ => ?_)
         clear hKQ KQ
         try simp only [Act.put]
         refine rr [2] ?_
         refine rc (fun KQ hKQ => ?_) AllReadyH.nil
         refine step_bsR rfl _ 38 rfl _ rfl _ (run_bsM2 ({ letM c 2 mf with y := true }) (.slice none 0 0) yq) ?_
         rintro v yq2 ⟨rfl, kB, hX⟩
         have hO := OutL.one (B := yq.heap.size) kB (OwnE.nil _ _) (Nat.le_refl _)
         have LBhOkC := Lib.hid kC.lt
         have LBhOkM := Lib.hid kM.lt
         have LBhOkO := Lib.hid kO.lt
         have NIRBkO := NIR0kO
         have LBhOkV := Lib.hid kV.lt
         have RB := R0.below hX
         have hB7 := Lib.hid HB.size
         have RBz := Lib.hid hX.size
         clear kB
         replace HB := bt HB hX
         replace kC := kC.b hX
         replace kM := kM.b hX
         replace kO := kO.b hX
         replace kV := kV.b hX
         replace R0 := R0.on hX hX.size
         clear hX
         generalize yq.heap.size = B9 at *
         obtain ⟨yq, hyq⟩ : ∃ z, z = yq2 := ⟨_, rfl⟩
         subst hyq
         refine hKQ.out _ _ (⟨kC, kV⟩) (fun _ => ?_)
         clear hKQ KQ
         try simp only [Act.put, ka, kb, kc]
         refine tj 4 _ ?_
         try simp only [Act.put, ka, kb, kc]
         refine wpAnyH_done (by kernel_rfl) ?_ _
         simp only [Exit.then]
         refine (‹∀ (a : Act) (w : World), Code.wp _ Code.ret _ a w → _›) _ _ (wp_ret ?_)
         (try simp only [Exit.inBlock]); (try simp only [Exit.then])
         show bodyPost _ _ _ Exit.ret _ _
         refine bodyPost_ret (res2 Tryz.results78 rfl rfl (aggC _) (sizeC _) (ldCv kO)) rfl ?_
         rw [hE.out]
         first | exact ⟨A, n, p, _, B9, rfl, RB, hp, OldNew.refl _ _ _, hO, hB7.out, RBz.out, HB⟩ | exact ⟨A, n, p, _, rfl, B9, RB, hp, OldNew.refl _ _ _, hO, hB7.out, RBz.out, HB⟩
     · skip
       have bm : (vo == mf) = false := by simp [hvm]
       replace hvm := Lib.hid hvm
       have hE := Lib.hid (hN1.out (fun e => e.1.elim hv0.out hvm.out) rfl)
       clear hY1 hN1 hL1
       have df := fun i => kV.frozen i
       have cR8 : _ = some _ := kV.cell 8
       go_upto_region 4 with (go_skip)
       clear df cR8
       have kV2 : Blk 49 _ gkV (msC { letM c 2 mf with y := false } (.slice none 0 0)) := kV.set_ 8 (.bool false)
       have pO := put_set y7 gkV (8) (.bool false)
       generalize (y7.setCell ⟨gkV, 8, none⟩ (.bool false)) = y8 at *
       replace kC := kC.put pO (Nat.ne_of_lt LTkCkV.out)
       replace kM := kM.put pO (Nat.ne_of_lt LTkMkV.out)
       replace kO := kO.put pO (Nat.ne_of_lt LTkOkV.out)
       replace R0 := R0.putS pO NIR0kV.out
       replace HB := pO.below _ _ HB LEkV.out
       clear kV
       have kV := kV2
       clear kV2 pO
       clear c_ro c_vo c_mf
       have hvE : { letM c 2 mf with y := false } = letM c 2 mf := rfl
       rw [hvE] at kV
       clear hvE
       have cy : y8.cell? ⟨gkV, 8, none⟩ = some (.bool false) := by exact kV.cell 8
       go_upto_region 7 with (go_skip)
       clear cy
       refine wp_region_held_drew (S := fun wq => Blk 33 wq w.heap.size (crC c (.slice A n p)) ∧ Blk 49 wq gkV (msC (letM c 2 mf) (.slice none 0 0))) (by kernel_rfl) ?s_tka7c (fun hHeld => ?_)
       case s_tka7c => exact ⟨kC, kV⟩
       have hD := (Below.refl y8.heap.size y8).drew
       replace HB := bt HB hD
       replace kC := kC.b hD
       replace kM := kM.b hD
       replace kO := kO.b hD
       replace kV := kV.b hD
       replace R0 := R0.on hD hD.size
       clear hD
       generalize y8.drew = yq at *
       refine tj 0 _ ?_ (hy := fun wq hSw => rld_C rfl rfl (And.left hSw))
       try simp only [Act.put, ka, kb, kc]
       refine tj 1 _ ?_ (hy := fun wq hSw => rld_M rfl rfl (And.right hSw))
       try simp only [Act.put, ka, kb, kc]
       refine rr [2, 3] ?_
       refine rc (fun KQ hKQ => ?_) (rc (fun KQ hKQ => ?_) (AllReadyH.nil))
       · refine step_bsR rfl _ 38 rfl _ rfl _ (run_bsM2 (letM c 2 mf) (.slice none 0 0) yq) ?_
         rintro v yq2 ⟨rfl, kB, hX⟩
         have hO := OutL.one (B := yq.heap.size) kB (OwnE.nil _ _) (Nat.le_refl _)
         have LBhOkC := Lib.hid kC.lt
         have LBhOkM := Lib.hid kM.lt
         have LBhOkO := Lib.hid kO.lt
         have NIRBkO := NIR0kO
         have LBhOkV := Lib.hid kV.lt
         have RB := R0.below hX
         have hB7 := Lib.hid HB.size
         have RBz := Lib.hid hX.size
         clear kB
         replace HB := bt HB hX
         replace kC := kC.b hX
         replace kM := kM.b hX
         replace kO := kO.b hX
         replace kV := kV.b hX
         replace R0 := R0.on hX hX.size
         clear hX
         generalize yq.heap.size = B9 at *
         obtain ⟨yq, hyq⟩ : ∃ z, z = yq2 := ⟨_, rfl⟩
         subst hyq
         refine hKQ.out _ _ (⟨kC, kV⟩) (fun _ => ?_)
         clear hKQ KQ
         try simp only [Act.put, ka, kb, kc]
         refine rr [3] ?_
         refine rc (fun KQ hKQ => ?_) AllReadyH.nil
         refine step_stAt rfl 33 _ _ rfl (cells := (crC c (.slice A n p)).toArray) (crC c (.slice A n p)) rfl rfl kO sizeCv (by show 0 + 45 ≤ 45; omega) (cr_one _) rfl ?_
         intro yq2 kO2 pO
         try replace hO := hO.put pO LBhOkO.out
         try replace RB := RB.putN pO NIRBkO.out
         try replace RBz := Lib.hid (Nat.le_trans RBz.out (Nat.le_of_eq pO.size.symm))
         try replace hE7 := Lib.hid (hE7.out.put pO LBhOkO.out)
         replace kC := kC.put pO (Nat.ne_of_lt LTkCkO.out)
         replace kM := kM.put pO (Nat.ne_of_lt LTkMkO.out)
         replace kV := kV.put pO (Nat.ne_of_gt LTkOkV.out)
         replace R0 := R0.putS pO NIR0kO.out
         replace HB := pO.below _ _ HB LEkO.out
         clear kO
         have kO := kO2
         clear kO2 pO
         obtain ⟨yq, hyq⟩ : ∃ z, z = yq2 := ⟨_, rfl⟩
         subst hyq
         refine hKQ.out _ _ (⟨kC, kV⟩) (fun _ => ?_)
         clear hKQ KQ
         try simp only [Act.put]
         refine tj 4 _ ?_
         try simp only [Act.put, ka, kb, kc]
         refine wpAnyH_done (by kernel_rfl) ?_ _
         simp only [Exit.then]
         refine (‹∀ (a : Act) (w : World), Code.wp _ Code.ret _ a w → _›) _ _ (wp_ret ?_)
         (try simp only [Exit.inBlock]); (try simp only [Exit.then])
         show bodyPost _ _ _ Exit.ret _ _
         refine bodyPost_ret (res2 Tryz.results78 rfl rfl (aggC _) (sizeC _) (ldCv kO)) rfl ?_
         rw [hE.out]
         first | exact ⟨A, n, p, _, B9, rfl, RB, hp, OldNew.refl _ _ _, hO, hB7.out, RBz.out, HB⟩ | exact ⟨A, n, p, _, rfl, B9, RB, hp, OldNew.refl _ _ _, hO, hB7.out, RBz.out, HB⟩
       · refine step_stAt rfl 33 _ _ rfl (cells := (crC c (.slice A n p)).toArray) (crC c (.slice A n p)) rfl rfl kO sizeCv (by show 0 + 45 ≤ 45; omega) (cr_one _) rfl ?_
         intro yq2 kO2 pO
         try replace hO := hO.put pO LBhOkO.out
         try replace RB := RB.putN pO NIRBkO.out
         try replace RBz := Lib.hid (Nat.le_trans RBz.out (Nat.le_of_eq pO.size.symm))
         try replace hE7 := Lib.hid (hE7.out.put pO LBhOkO.out)
         replace kC := kC.put pO (Nat.ne_of_lt LTkCkO.out)
         replace kM := kM.put pO (Nat.ne_of_lt LTkMkO.out)
         replace kV := kV.put pO (Nat.ne_of_gt LTkOkV.out)
         replace R0 := R0.putS pO NIR0kO.out
         replace HB := pO.below _ _ HB LEkO.out
         clear kO
         have kO := kO2
         clear kO2 pO
         obtain ⟨yq, hyq⟩ : ∃ z, z = yq2 := ⟨_, rfl⟩
         subst hyq
         refine hKQ.out _ _ (⟨kC, kV⟩) (fun _ => ?_)
         clear hKQ KQ
         try simp only [Act.put]
         refine rr [2] ?_
         refine rc (fun KQ hKQ => ?_) AllReadyH.nil
         refine step_bsR rfl _ 38 rfl _ rfl _ (run_bsM2 (letM c 2 mf) (.slice none 0 0) yq) ?_
         rintro v yq2 ⟨rfl, kB, hX⟩
         have hO := OutL.one (B := yq.heap.size) kB (OwnE.nil _ _) (Nat.le_refl _)
         have LBhOkC := Lib.hid kC.lt
         have LBhOkM := Lib.hid kM.lt
         have LBhOkO := Lib.hid kO.lt
         have NIRBkO := NIR0kO
         have LBhOkV := Lib.hid kV.lt
         have RB := R0.below hX
         have hB7 := Lib.hid HB.size
         have RBz := Lib.hid hX.size
         clear kB
         replace HB := bt HB hX
         replace kC := kC.b hX
         replace kM := kM.b hX
         replace kO := kO.b hX
         replace kV := kV.b hX
         replace R0 := R0.on hX hX.size
         clear hX
         generalize yq.heap.size = B9 at *
         obtain ⟨yq, hyq⟩ : ∃ z, z = yq2 := ⟨_, rfl⟩
         subst hyq
         refine hKQ.out _ _ (⟨kC, kV⟩) (fun _ => ?_)
         clear hKQ KQ
         try simp only [Act.put, ka, kb, kc]
         refine tj 4 _ ?_
         try simp only [Act.put, ka, kb, kc]
         refine wpAnyH_done (by kernel_rfl) ?_ _
         simp only [Exit.then]
         refine (‹∀ (a : Act) (w : World), Code.wp _ Code.ret _ a w → _›) _ _ (wp_ret ?_)
         (try simp only [Exit.inBlock]); (try simp only [Exit.then])
         show bodyPost _ _ _ Exit.ret _ _
         refine bodyPost_ret (res2 Tryz.results78 rfl rfl (aggC _) (sizeC _) (ldCv kO)) rfl ?_
         rw [hE.out]
         first | exact ⟨A, n, p, _, B9, rfl, RB, hp, OldNew.refl _ _ _, hO, hB7.out, RBz.out, HB⟩ | exact ⟨A, n, p, _, rfl, B9, RB, hp, OldNew.refl _ _ _, hO, hB7.out, RBz.out, HB⟩
   · skip
     have br : (ro == 0) = false := by simp [hr0]
     replace hr0 := Lib.hid hr0
     have hE := Lib.hid (hN1.out (fun e => hr0.out e.2) rfl)
     clear hY1 hN1 hL1
     have df := fun i => kV.frozen i
     have cR8 : _ = some _ := kV.cell 8
     go_upto_region 4 with (go_skip)
     clear df cR8
     have kV2 : Blk 49 _ gkV (msC { letM c 2 mf with y := false } (.slice none 0 0)) := kV.set_ 8 (.bool false)
     have pO := put_set y7 gkV (8) (.bool false)
     generalize (y7.setCell ⟨gkV, 8, none⟩ (.bool false)) = y8 at *
     replace kC := kC.put pO (Nat.ne_of_lt LTkCkV.out)
     replace kM := kM.put pO (Nat.ne_of_lt LTkMkV.out)
     replace kO := kO.put pO (Nat.ne_of_lt LTkOkV.out)
     replace R0 := R0.putS pO NIR0kV.out
     replace HB := pO.below _ _ HB LEkV.out
     clear kV
     have kV := kV2
     clear kV2 pO
     clear c_ro c_vo c_mf
     have hvE : { letM c 2 mf with y := false } = letM c 2 mf := rfl
     rw [hvE] at kV
     clear hvE
     have cy : y8.cell? ⟨gkV, 8, none⟩ = some (.bool false) := by exact kV.cell 8
     go_upto_region 7 with (go_skip)
     clear cy
     refine wp_region_held_drew (S := fun wq => Blk 33 wq w.heap.size (crC c (.slice A n p)) ∧ Blk 49 wq gkV (msC (letM c 2 mf) (.slice none 0 0))) (by kernel_rfl) ?s_tka7d (fun hHeld => ?_)
     case s_tka7d => exact ⟨kC, kV⟩
     have hD := (Below.refl y8.heap.size y8).drew
     replace HB := bt HB hD
     replace kC := kC.b hD
     replace kM := kM.b hD
     replace kO := kO.b hD
     replace kV := kV.b hD
     replace R0 := R0.on hD hD.size
     clear hD
     generalize y8.drew = yq at *
     refine tj 0 _ ?_ (hy := fun wq hSw => rld_C rfl rfl (And.left hSw))
     try simp only [Act.put, ka, kb, kc]
     refine tj 1 _ ?_ (hy := fun wq hSw => rld_M rfl rfl (And.right hSw))
     try simp only [Act.put, ka, kb, kc]
     refine rr [2, 3] ?_
     refine rc (fun KQ hKQ => ?_) (rc (fun KQ hKQ => ?_) (AllReadyH.nil))
     · refine step_bsR rfl _ 38 rfl _ rfl _ (run_bsM2 (letM c 2 mf) (.slice none 0 0) yq) ?_
       rintro v yq2 ⟨rfl, kB, hX⟩
       have hO := OutL.one (B := yq.heap.size) kB (OwnE.nil _ _) (Nat.le_refl _)
       have LBhOkC := Lib.hid kC.lt
       have LBhOkM := Lib.hid kM.lt
       have LBhOkO := Lib.hid kO.lt
       have NIRBkO := NIR0kO
       have LBhOkV := Lib.hid kV.lt
       have RB := R0.below hX
       have hB7 := Lib.hid HB.size
       have RBz := Lib.hid hX.size
       clear kB
       replace HB := bt HB hX
       replace kC := kC.b hX
       replace kM := kM.b hX
       replace kO := kO.b hX
       replace kV := kV.b hX
       replace R0 := R0.on hX hX.size
       clear hX
       generalize yq.heap.size = B9 at *
       obtain ⟨yq, hyq⟩ : ∃ z, z = yq2 := ⟨_, rfl⟩
       subst hyq
       refine hKQ.out _ _ (⟨kC, kV⟩) (fun _ => ?_)
       clear hKQ KQ
       try simp only [Act.put, ka, kb, kc]
       refine rr [3] ?_
       refine rc (fun KQ hKQ => ?_) AllReadyH.nil
       refine step_stAt rfl 33 _ _ rfl (cells := (crC c (.slice A n p)).toArray) (crC c (.slice A n p)) rfl rfl kO sizeCv (by show 0 + 45 ≤ 45; omega) (cr_one _) rfl ?_
       intro yq2 kO2 pO
       try replace hO := hO.put pO LBhOkO.out
       try replace RB := RB.putN pO NIRBkO.out
       try replace RBz := Lib.hid (Nat.le_trans RBz.out (Nat.le_of_eq pO.size.symm))
       try replace hE7 := Lib.hid (hE7.out.put pO LBhOkO.out)
       replace kC := kC.put pO (Nat.ne_of_lt LTkCkO.out)
       replace kM := kM.put pO (Nat.ne_of_lt LTkMkO.out)
       replace kV := kV.put pO (Nat.ne_of_gt LTkOkV.out)
       replace R0 := R0.putS pO NIR0kO.out
       replace HB := pO.below _ _ HB LEkO.out
       clear kO
       have kO := kO2
       clear kO2 pO
       obtain ⟨yq, hyq⟩ : ∃ z, z = yq2 := ⟨_, rfl⟩
       subst hyq
       refine hKQ.out _ _ (⟨kC, kV⟩) (fun _ => ?_)
       clear hKQ KQ
       try simp only [Act.put]
       refine tj 4 _ ?_
       try simp only [Act.put, ka, kb, kc]
       refine wpAnyH_done (by kernel_rfl) ?_ _
       simp only [Exit.then]
       refine (‹∀ (a : Act) (w : World), Code.wp _ Code.ret _ a w → _›) _ _ (wp_ret ?_)
       (try simp only [Exit.inBlock]); (try simp only [Exit.then])
       show bodyPost _ _ _ Exit.ret _ _
       refine bodyPost_ret (res2 Tryz.results78 rfl rfl (aggC _) (sizeC _) (ldCv kO)) rfl ?_
       rw [hE.out]
       first | exact ⟨A, n, p, _, B9, rfl, RB, hp, OldNew.refl _ _ _, hO, hB7.out, RBz.out, HB⟩ | exact ⟨A, n, p, _, rfl, B9, RB, hp, OldNew.refl _ _ _, hO, hB7.out, RBz.out, HB⟩
     · refine step_stAt rfl 33 _ _ rfl (cells := (crC c (.slice A n p)).toArray) (crC c (.slice A n p)) rfl rfl kO sizeCv (by show 0 + 45 ≤ 45; omega) (cr_one _) rfl ?_
       intro yq2 kO2 pO
       try replace hO := hO.put pO LBhOkO.out
       try replace RB := RB.putN pO NIRBkO.out
       try replace RBz := Lib.hid (Nat.le_trans RBz.out (Nat.le_of_eq pO.size.symm))
       try replace hE7 := Lib.hid (hE7.out.put pO LBhOkO.out)
       replace kC := kC.put pO (Nat.ne_of_lt LTkCkO.out)
       replace kM := kM.put pO (Nat.ne_of_lt LTkMkO.out)
       replace kV := kV.put pO (Nat.ne_of_gt LTkOkV.out)
       replace R0 := R0.putS pO NIR0kO.out
       replace HB := pO.below _ _ HB LEkO.out
       clear kO
       have kO := kO2
       clear kO2 pO
       obtain ⟨yq, hyq⟩ : ∃ z, z = yq2 := ⟨_, rfl⟩
       subst hyq
       refine hKQ.out _ _ (⟨kC, kV⟩) (fun _ => ?_)
       clear hKQ KQ
       try simp only [Act.put]
       refine rr [2] ?_
       refine rc (fun KQ hKQ => ?_) AllReadyH.nil
       refine step_bsR rfl _ 38 rfl _ rfl _ (run_bsM2 (letM c 2 mf) (.slice none 0 0) yq) ?_
       rintro v yq2 ⟨rfl, kB, hX⟩
       have hO := OutL.one (B := yq.heap.size) kB (OwnE.nil _ _) (Nat.le_refl _)
       have LBhOkC := Lib.hid kC.lt
       have LBhOkM := Lib.hid kM.lt
       have LBhOkO := Lib.hid kO.lt
       have NIRBkO := NIR0kO
       have LBhOkV := Lib.hid kV.lt
       have RB := R0.below hX
       have hB7 := Lib.hid HB.size
       have RBz := Lib.hid hX.size
       clear kB
       replace HB := bt HB hX
       replace kC := kC.b hX
       replace kM := kM.b hX
       replace kO := kO.b hX
       replace kV := kV.b hX
       replace R0 := R0.on hX hX.size
       clear hX
       generalize yq.heap.size = B9 at *
       obtain ⟨yq, hyq⟩ : ∃ z, z = yq2 := ⟨_, rfl⟩
       subst hyq
       refine hKQ.out _ _ (⟨kC, kV⟩) (fun _ => ?_)
       clear hKQ KQ
       try simp only [Act.put, ka, kb, kc]
       refine tj 4 _ ?_
       try simp only [Act.put, ka, kb, kc]
       refine wpAnyH_done (by kernel_rfl) ?_ _
       simp only [Exit.then]
       refine (‹∀ (a : Act) (w : World), Code.wp _ Code.ret _ a w → _›) _ _ (wp_ret ?_)
       (try simp only [Exit.inBlock]); (try simp only [Exit.then])
       show bodyPost _ _ _ Exit.ret _ _
       refine bodyPost_ret (res2 Tryz.results78 rfl rfl (aggC _) (sizeC _) (ldCv kO)) rfl ?_
       rw [hE.out]
       first | exact ⟨A, n, p, _, B9, rfl, RB, hp, OldNew.refl _ _ _, hO, hB7.out, RBz.out, HB⟩ | exact ⟨A, n, p, _, rfl, B9, RB, hp, OldNew.refl _ _ _, hO, hB7.out, RBz.out, HB⟩
 have hE := Lib.hid (hL1.out rfl)
 clear hY1 hN1 hL1
 have df := fun i => kV.frozen i
 have cR8 : _ = some _ := kV.cell 8
 go_upto_region 4 with (go_skip)
 clear df cR8
 have kV2 : Blk 49 _ gkV (msC { letM c 2 mf with y := false } (.slice none 0 0)) := kV.set_ 8 (.bool false)
 have pO := put_set y7 gkV (8) (.bool false)
 generalize (y7.setCell ⟨gkV, 8, none⟩ (.bool false)) = y8 at *
 replace kC := kC.put pO (Nat.ne_of_lt LTkCkV.out)
 replace kM := kM.put pO (Nat.ne_of_lt LTkMkV.out)
 replace kO := kO.put pO (Nat.ne_of_lt LTkOkV.out)
 replace R0 := R0.putS pO NIR0kV.out
 replace HB := pO.below _ _ HB LEkV.out
 clear kV
 have kV := kV2
 clear kV2 pO
 clear c_ro c_vo c_mf
 have hvE : { letM c 2 mf with y := false } = letM c 2 mf := rfl
 rw [hvE] at kV
 clear hvE
 have cy : y8.cell? ⟨gkV, 8, none⟩ = some (.bool false) := by exact kV.cell 8
 go_upto_region 8 with (go_skip)
 clear cy
 refine wp_region_held_drew (S := fun wq => Blk 33 wq w.heap.size (crC c (.slice A n p)) ∧ Blk 49 wq gkV (msC (letM c 2 mf) (.slice none 0 0)) ∧ Blk 49 wq gkM (msC m (.slice Am nm pm))) (by kernel_rfl) ?s_tka8 (fun hHeld => ?_)
 case s_tka8 => exact ⟨kC, kV, kM⟩
 have hD := (Below.refl y8.heap.size y8).drew
 replace HB := bt HB hD
 replace kC := kC.b hD
 replace kM := kM.b hD
 replace kO := kO.b hD
 replace kV := kV.b hD
 replace R0 := R0.on hD hD.size
 clear hD
 generalize y8.drew = yq at *
 refine tj 0 _ ?_ (hy := fun wq hSw => rld_C rfl rfl (And.left hSw))
 try simp only [Act.put, ka, kb, kc]
 refine tj 1 _ ?_ (hy := fun wq hSw => rld_M rfl rfl (And.left <| And.right hSw))
 try simp only [Act.put, ka, kb, kc]
 refine tj 2 _ ?_ (hy := fun wq hSw => rld_C rfl rfl (And.left hSw))
 try simp only [Act.put, ka, kb, kc]
 refine tj 3 _ ?_ (hy := fun wq hSw => rld_M rfl rfl (And.right <| And.right hSw))
 try simp only [Act.put, ka, kb, kc]
 refine rr [4] ?_
 refine rc (fun KQ hKQ => ?_) AllReadyH.nil
 go_simp
 have LBhOkC := Lib.hid kC.lt
 have LBhOkM := Lib.hid kM.lt
 have LBhOkO := Lib.hid kO.lt
 have NIRBkO := NIR0kO
 have LBhOkV := Lib.hid kV.lt
 have RB := R0
 have hB7 := Lib.hid HB.size
 have RBz := Lib.hid (Nat.le_refl yq.heap.size)
 have CC := lend_any c A n p m Am nm pm yq yq.heap.size R0 (Nat.le_refl _) hp HF.out hi0.out hl4.out
 obtain ⟨B9, hB9⟩ : ∃ q, yq.heap.size = q := ⟨_, rfl⟩
 rw [hB9] at CC RB hB7 RBz LBhOkC LBhOkM LBhOkO LBhOkV
 replace RBz := Lib.hid (show B9 ≤ yq.heap.size by rw [hB9]; exact Nat.le_refl _)
 have hB9z := Lib.hid hB9
 clear hB9
 refine CC.mono ?_
 rintro e yq2 ⟨A7, n7, p7, rfl, hE7, hY⟩
 rw [← hB9z.out] at hY
 clear CC hB9z
 replace hE7 := Lib.hid hE7
 replace RB := RB.below (hY.mono RBz.out)
 replace RBz := Lib.hid (Nat.le_trans RBz.out hY.size)
 replace HB := bt HB hY
 replace kC := kC.b hY
 replace kM := kM.b hY
 replace kO := kO.b hY
 replace kV := kV.b hY
 replace R0 := R0.on hY hY.size
 clear hY
 obtain ⟨yq, hyq⟩ : ∃ z, z = yq2 := ⟨_, rfl⟩
 subst hyq
 go_wp2_with fail
 refine hKQ.out _ _ (⟨kC, kV, kM⟩) (fun _ => ?_)
 clear hKQ KQ
 try simp only [Act.put, ka, kb, kc]
 refine rr [5, 6] ?_
 refine rc (fun KQ hKQ => ?_) (rc (fun KQ hKQ => ?_) (AllReadyH.nil))
 · refine step_bsR2 rfl _ _ 38 rfl _ _ rfl rfl _ (run_bsM3 (letM c 2 mf) (lenM c m) (.slice none 0 0) (.slice A7 n7 p7) yq) ?_
   rintro v yq2 ⟨rfl, kB, hX⟩
   have hO := OutL.two (B := B9) kB (OwnE.nil _ _) (hE7.out.below hX) RBz.out
   replace RB := RB.below (hX.mono RBz.out)
   replace RBz := Lib.hid (Nat.le_trans RBz.out hX.size)
   clear kB
   replace HB := bt HB hX
   replace kC := kC.b hX
   replace kM := kM.b hX
   replace kO := kO.b hX
   replace kV := kV.b hX
   replace R0 := R0.on hX hX.size
   clear hX
   obtain ⟨yq, hyq⟩ : ∃ z, z = yq2 := ⟨_, rfl⟩
   subst hyq
   refine hKQ.out _ _ (⟨kC, kV, kM⟩) (fun _ => ?_)
   clear hKQ KQ
   try simp only [Act.put, ka, kb, kc]
   refine rr [6] ?_
   refine rc (fun KQ hKQ => ?_) AllReadyH.nil
   refine step_stAt rfl 33 _ _ rfl (cells := (crC c (.slice A n p)).toArray) (crC c (.slice A n p)) rfl rfl kO sizeCv (by show 0 + 45 ≤ 45; omega) (cr_one _) rfl ?_
   intro yq2 kO2 pO
   try replace hO := hO.put pO LBhOkO.out
   try replace RB := RB.putN pO NIRBkO.out
   try replace RBz := Lib.hid (Nat.le_trans RBz.out (Nat.le_of_eq pO.size.symm))
   try replace hE7 := Lib.hid (hE7.out.put pO LBhOkO.out)
   replace kC := kC.put pO (Nat.ne_of_lt LTkCkO.out)
   replace kM := kM.put pO (Nat.ne_of_lt LTkMkO.out)
   replace kV := kV.put pO (Nat.ne_of_gt LTkOkV.out)
   replace R0 := R0.putS pO NIR0kO.out
   replace HB := pO.below _ _ HB LEkO.out
   clear kO
   have kO := kO2
   clear kO2 pO
   obtain ⟨yq, hyq⟩ : ∃ z, z = yq2 := ⟨_, rfl⟩
   subst hyq
   refine hKQ.out _ _ (⟨kC, kV, kM⟩) (fun _ => ?_)
   clear hKQ KQ
   try simp only [Act.put]
   refine tj 7 _ ?_
   try simp only [Act.put, ka, kb, kc]
   refine wpAnyH_done (by kernel_rfl) ?_ _
   simp only [Exit.then]
   refine (‹∀ (a : Act) (w : World), Code.wp _ Code.ret _ a w → _›) _ _ (wp_ret ?_)
   (try simp only [Exit.inBlock]); (try simp only [Exit.then])
   show bodyPost _ _ _ Exit.ret _ _
   refine bodyPost_ret (res2 Tryz.results78 rfl rfl (aggC _) (sizeC _) (ldCv kO)) rfl ?_
   rw [hE.out]
   first | exact ⟨A, n, p, _, B9, rfl, RB, hp, OldNew.refl _ _ _, hO, hB7.out, RBz.out, HB⟩ | exact ⟨A, n, p, _, rfl, B9, RB, hp, OldNew.refl _ _ _, hO, hB7.out, RBz.out, HB⟩
 · refine step_stAt rfl 33 _ _ rfl (cells := (crC c (.slice A n p)).toArray) (crC c (.slice A n p)) rfl rfl kO sizeCv (by show 0 + 45 ≤ 45; omega) (cr_one _) rfl ?_
   intro yq2 kO2 pO
   try replace hO := hO.put pO LBhOkO.out
   try replace RB := RB.putN pO NIRBkO.out
   try replace RBz := Lib.hid (Nat.le_trans RBz.out (Nat.le_of_eq pO.size.symm))
   try replace hE7 := Lib.hid (hE7.out.put pO LBhOkO.out)
   replace kC := kC.put pO (Nat.ne_of_lt LTkCkO.out)
   replace kM := kM.put pO (Nat.ne_of_lt LTkMkO.out)
   replace kV := kV.put pO (Nat.ne_of_gt LTkOkV.out)
   replace R0 := R0.putS pO NIR0kO.out
   replace HB := pO.below _ _ HB LEkO.out
   clear kO
   have kO := kO2
   clear kO2 pO
   obtain ⟨yq, hyq⟩ : ∃ z, z = yq2 := ⟨_, rfl⟩
   subst hyq
   refine hKQ.out _ _ (⟨kC, kV, kM⟩) (fun _ => ?_)
   clear hKQ KQ
   try simp only [Act.put]
   refine rr [5] ?_
   refine rc (fun KQ hKQ => ?_) AllReadyH.nil
   refine step_bsR2 rfl _ _ 38 rfl _ _ rfl rfl _ (run_bsM3 (letM c 2 mf) (lenM c m) (.slice none 0 0) (.slice A7 n7 p7) yq) ?_
   rintro v yq2 ⟨rfl, kB, hX⟩
   have hO := OutL.two (B := B9) kB (OwnE.nil _ _) (hE7.out.below hX) RBz.out
   replace RB := RB.below (hX.mono RBz.out)
   replace RBz := Lib.hid (Nat.le_trans RBz.out hX.size)
   clear kB
   replace HB := bt HB hX
   replace kC := kC.b hX
   replace kM := kM.b hX
   replace kO := kO.b hX
   replace kV := kV.b hX
   replace R0 := R0.on hX hX.size
   clear hX
   obtain ⟨yq, hyq⟩ : ∃ z, z = yq2 := ⟨_, rfl⟩
   subst hyq
   refine hKQ.out _ _ (⟨kC, kV, kM⟩) (fun _ => ?_)
   clear hKQ KQ
   try simp only [Act.put, ka, kb, kc]
   refine tj 7 _ ?_
   try simp only [Act.put, ka, kb, kc]
   refine wpAnyH_done (by kernel_rfl) ?_ _
   simp only [Exit.then]
   refine (‹∀ (a : Act) (w : World), Code.wp _ Code.ret _ a w → _›) _ _ (wp_ret ?_)
   (try simp only [Exit.inBlock]); (try simp only [Exit.then])
   show bodyPost _ _ _ Exit.ret _ _
   refine bodyPost_ret (res2 Tryz.results78 rfl rfl (aggC _) (sizeC _) (ldCv kO)) rfl ?_
   rw [hE.out]
   first | exact ⟨A, n, p, _, B9, rfl, RB, hp, OldNew.refl _ _ _, hO, hB7.out, RBz.out, HB⟩ | exact ⟨A, n, p, _, rfl, B9, RB, hp, OldNew.refl _ _ _, hO, hB7.out, RBz.out, HB⟩
set_option maxHeartbeats 4000000 in
set_option maxRecDepth 10000 in
theorem takeVote_any (c : CoL) (A : Option Addr) (n p : Nat) (m : MsL) (Am : Option Addr) (nm pm : Nat) (w : World) (B : Nat) (hR : RdE w B A n c.lg.es) (hB : B ≤ w.heap.size) (hp : n ≤ p) (hg : GoodN c 700000) (h1 : 1 ≤ c.id) (hl : lastF c.lg ≤ 2199023255550) (hv : c.vs < 65536) (hf9 : 1 ≤ m.f ∧ m.f ≤ 9) : Calls Tryz.prog 79 #[crV c (.slice A n p), msV m (.slice Am nm pm)] w fun e w' => ∃ A' n' p' v B', e = .returned (.tuple #[crV (voteF c m).1 (.slice A' n' p'), v]) ∧ RdE w' B' A' n' (voteF c m).1.lg.es ∧ n' ≤ p' ∧ OldNew w.heap.size A n A' n' ∧ OutL w' B' v (voteF c m).2 ∧ w.heap.size ≤ B' ∧ B' ≤ w'.heap.size ∧ Below w.heap.size w w' := by
 have HG := Lib.hid hg
 have hid := Lib.hid (show 1 ≤ c.id ∧ c.id ≤ 9 from ⟨h1, hg.2.2.2.1⟩)
 have hl2 := Lib.hid hl
 have hvs := Lib.hid hv
 have hV0 := Lib.hid (fun h => vote_no (c := c) (m := m) h)
 have hV1 := Lib.hid (fun h hy he => vote_wait (c := c) (m := m) h hy he)
 have hV2 := Lib.hid (fun h hy he => vote_win (c := c) (m := m) h hy he)
 obtain ⟨mf, hmf⟩ : ∃ q, m.f = q := ⟨_, rfl⟩
 obtain ⟨ro, hro⟩ : ∃ q, c.ro = q := ⟨_, rfl⟩
 obtain ⟨yb, hyb⟩ : ∃ q, m.y = q := ⟨_, rfl⟩
 obtain ⟨vs2, hvs2⟩ : ∃ q, withF c.vs m.f = q := ⟨_, rfl⟩
 have hv2l := Lib.hid (show vs2 < 65536 by rw [← hvs2]; exact withF_lt _ hv)
 obtain ⟨el, hel⟩ : ∃ q, elJ (conC c) vs2 = q := ⟨_, rfl⟩
 rw [hro, hyb] at hV0 hV1 hV2
 rw [hvs2, hel] at hV1 hV2
 rw [hmf] at hV1 hV2 hvs2
 clear hg hl hv
 replace hmf := Lib.hid hmf
 replace hro := Lib.hid hro
 replace hyb := Lib.hid hyb
 replace hvs2 := Lib.hid hvs2
 replace hel := Lib.hid hel
 have hmf9 := Lib.hid hf9
 rw [hmf.out] at hmf9
 have R0 := hR.more hB
 clear hR hB
 go_enter Tryz.func79, Tryz.ntmps79
 have NIR0kC := Lib.hid (NotIn.of_rd R0 (Nat.le_refl _))
 have LEkC : Hid (w.heap.size ≤ w.heap.size) := Nat.le_refl _
 go_wp2_with (first | go_skip | refine box_C rfl _ rfl c (.slice A n p) rfl ?_ | fail)
 intro y1 kC e1 s1
 clear s1
 have HB := e1
 replace R0 := R0.on e1 e1.size
 clear e1
 have LTkCkM := Lib.hid kC.lt
 go_wp2_with (first | go_skip | refine box_M rfl _ rfl m (.slice Am nm pm) rfl ?_ | (first | refine lo_Cj kC ?_ | refine lo_cLj kC ?_ | refine lo_cJj kC ?_))
 intro y2 kM e2 s2
 clear s2
 replace HB := bt HB e2
 replace kC := kC.b e2
 replace R0 := R0.on e2 e2.size
 clear e2
 generalize y1.heap.size = gkM at *
 have LTkCkO := Lib.hid kC.lt
 have LTkMkO := Lib.hid kM.lt
 have NIR0kO := Lib.hid (NotIn.of_rd R0 (Nat.le_refl _))
 have LEkO : Hid (w.heap.size ≤ y2.heap.size) := HB.size
 go_wp2_with (first | go_skip | refine al_C rfl rfl ?_ | (first | refine lo_Cj kC ?_ | refine lo_cLj kC ?_ | refine lo_cJj kC ?_ | refine lo_Mj kM ?_ | refine lo_mJj kM ?_))
 intro y3 kO e3 s3
 clear s3
 replace kO : Blk _ _ _ (crC zC (.slice none 0 0)) := kO
 replace HB := bt HB e3
 replace kC := kC.b e3
 replace kM := kM.b e3
 replace R0 := R0.on e3 e3.size
 clear e3
 generalize y2.heap.size = gkO at *
 have c_ro : y3.cell? ⟨w.heap.size, 1, none⟩ = some (.int .i64 ro) := by rw [← hro.out]; exact kC.cell 1
 have c_y : y3.cell? ⟨gkM, 8, none⟩ = some (.bool yb) := by rw [← hyb.out]; exact kM.cell 8
 by_cases hr1 : ro = 1
 rotate_left
 · skip
   have br : (ro != 1) = true := by simp [hr1]
   have hE := Lib.hid (hV0.out (fun e => hr1 e.1))
   replace hr1 := Lib.hid hr1
   have hO := OutL.nil y3 y3.heap.size
   have hB7 := Lib.hid (HB.size)
   have RB := R0
   have RBz := Lib.hid (Nat.le_refl y3.heap.size)
   have LBhOkC := Lib.hid kC.lt
   have LBhOkM := Lib.hid kM.lt
   have LBhOkO := Lib.hid kO.lt
   have NIRBkO := NIR0kO
   obtain ⟨B9, hB9⟩ : ∃ q, y3.heap.size = q := ⟨_, rfl⟩
   rw [hB9] at hO hB7 RB RBz LBhOkC LBhOkM LBhOkO
   replace RBz := Lib.hid (show B9 ≤ y3.heap.size by rw [hB9]; exact Nat.le_refl _)
   clear hB9
   go_wp2_with (first | go_skip | refine st_C rfl _ _ rfl c A n p rfl rfl _ kO rfl ?_ | (first | refine lo_Cj kC ?_ | refine lo_cLj kC ?_ | refine lo_cJj kC ?_ | refine lo_Mj kM ?_ | refine lo_mJj kM ?_ | refine lo_Cj kO ?_ | refine lo_cLj kO ?_ | refine lo_cJj kO ?_))
   intro y4 kO2 pO
   replace kC := kC.put pO (Nat.ne_of_lt LTkCkO.out)
   replace kM := kM.put pO (Nat.ne_of_lt LTkMkO.out)
   replace R0 := R0.putS pO NIR0kO.out
   replace hO := hO.put pO LBhOkO.out
   replace RB := RB.putN pO NIRBkO.out
   replace RBz := Lib.hid (Nat.le_trans RBz.out (Nat.le_of_eq pO.size.symm))
   replace HB := pO.below _ _ HB LEkO.out
   clear kO
   have kO := kO2
   clear kO2 pO
   clear c_ro c_y
   go_wp2_with (first | go_skip | refine lo_Cj kC ?_ | refine lo_cLj kC ?_ | refine lo_cJj kC ?_ | refine lo_Mj kM ?_ | refine lo_mJj kM ?_ | refine lo_Cj kO ?_ | refine lo_cLj kO ?_ | refine lo_cJj kO ?_)
   (try simp only [Exit.inBlock, Exit.then])
   refine bodyPost_ret (res2 Tryz.results79 rfl rfl (aggC _) (sizeC _) (ldCv kO)) rfl ?_
   rw [hE.out]
   exact ⟨A, n, p, _, B9, rfl, RB, hp, OldNew.refl _ _ _, hO, hB7.out, RBz.out, HB⟩
 have br : (ro != 1) = false := by simp [hr1]
 replace hr1 := Lib.hid hr1
 rcases yb with _ | _
 · skip
   have hE := Lib.hid (hV0.out (fun e => absurd e.2 (by decide)))
   have hO := OutL.nil y3 y3.heap.size
   have hB7 := Lib.hid (HB.size)
   have RB := R0
   have RBz := Lib.hid (Nat.le_refl y3.heap.size)
   have LBhOkC := Lib.hid kC.lt
   have LBhOkM := Lib.hid kM.lt
   have LBhOkO := Lib.hid kO.lt
   have NIRBkO := NIR0kO
   obtain ⟨B9, hB9⟩ : ∃ q, y3.heap.size = q := ⟨_, rfl⟩
   rw [hB9] at hO hB7 RB RBz LBhOkC LBhOkM LBhOkO
   replace RBz := Lib.hid (show B9 ≤ y3.heap.size by rw [hB9]; exact Nat.le_refl _)
   clear hB9
   go_wp2_with (first | go_skip | refine st_C rfl _ _ rfl c A n p rfl rfl _ kO rfl ?_ | (first | refine lo_Cj kC ?_ | refine lo_cLj kC ?_ | refine lo_cJj kC ?_ | refine lo_Mj kM ?_ | refine lo_mJj kM ?_ | refine lo_Cj kO ?_ | refine lo_cLj kO ?_ | refine lo_cJj kO ?_))
   intro y4 kO2 pO
   replace kC := kC.put pO (Nat.ne_of_lt LTkCkO.out)
   replace kM := kM.put pO (Nat.ne_of_lt LTkMkO.out)
   replace R0 := R0.putS pO NIR0kO.out
   replace hO := hO.put pO LBhOkO.out
   replace RB := RB.putN pO NIRBkO.out
   replace RBz := Lib.hid (Nat.le_trans RBz.out (Nat.le_of_eq pO.size.symm))
   replace HB := pO.below _ _ HB LEkO.out
   clear kO
   have kO := kO2
   clear kO2 pO
   clear c_ro c_y
   go_wp2_with (first | go_skip | refine lo_Cj kC ?_ | refine lo_cLj kC ?_ | refine lo_cJj kC ?_ | refine lo_Mj kM ?_ | refine lo_mJj kM ?_ | refine lo_Cj kO ?_ | refine lo_cLj kO ?_ | refine lo_cJj kO ?_)
   (try simp only [Exit.inBlock, Exit.then])
   refine bodyPost_ret (res2 Tryz.results79 rfl rfl (aggC _) (sizeC _) (ldCv kO)) rfl ?_
   rw [hE.out]
   exact ⟨A, n, p, _, B9, rfl, RB, hp, OldNew.refl _ _ _, hO, hB7.out, RBz.out, HB⟩
 have cvs : y3.cell? ⟨w.heap.size, 23, none⟩ = some (.int .u16 (c.vs : Int)) := kC.cell 23
 have c_mf : y3.cell? ⟨gkM, 1, none⟩ = some (.int .i64 mf) := by rw [← hmf.out]; exact kM.cell 1
 go_wp2_with (first | go_skip | refine lo_Cj kC ?_ | refine lo_cLj kC ?_ | refine lo_cJj kC ?_ | refine lo_Mj kM ?_ | refine lo_mJj kM ?_ | refine lo_Cj kO ?_ | refine lo_cLj kO ?_ | refine lo_cJj kO ?_)
 clear c_ro c_y
 have CC := seti.with_any c.vs mf y3 hvs.out (by have := hmf9.out; omega) (by have := hmf9.out; omega)
 rw [hvs2.out] at CC
 refine (CC).mono ?_
 rintro e y4 ⟨rfl, hY⟩
 replace HB := bt HB hY
 replace kC := kC.b hY
 replace kM := kM.b hY
 replace kO := kO.b hY
 replace R0 := R0.on hY hY.size
 clear hY
 clear CC cvs c_mf
 have df := fun i => kC.frozen i
 have cR23 : _ = some _ := kC.cell 23
 go_upto_region 4 with (go_skip)
 clear df cR23
 have kC2 : Blk 33 _ w.heap.size (crC { c with vs := vs2 } (.slice A n p)) := kC.set_ 23 (.int .u16 ((vs2 : Nat) : Int))
 have pO := put_set y4 w.heap.size (23) (.int .u16 ((vs2 : Nat) : Int))
 generalize (y4.setCell ⟨w.heap.size, 23, none⟩ (.int .u16 ((vs2 : Nat) : Int))) = y5 at *
 replace kM := kM.put pO (Nat.ne_of_gt LTkCkM.out)
 replace kO := kO.put pO (Nat.ne_of_gt LTkCkO.out)
 replace R0 := R0.putS pO NIR0kC.out
 replace HB := pO.below _ _ HB LEkC.out
 clear kC
 have kC := kC2
 clear kC2 pO
 refine wp_region_held_drew (S := fun wq => At wq w.heap.size 8 (lgC c.lg (.slice A n p)) ∧ wq.cell? ⟨w.heap.size, 23, none⟩ = some (.int .u16 ((vs2 : Nat) : Int))) (by kernel_rfl) ?s_tkv4 (fun hHeld => ?_)
 case s_tkv4 => exact ⟨at_cL (c := { c with vs := vs2 }) kC, kC.cell 23⟩
 have hD := (Below.refl y5.heap.size y5).drew
 replace HB := bt HB hD
 replace kC := kC.b hD
 replace kM := kM.b hD
 replace kO := kO.b hD
 replace R0 := R0.on hD hD.size
 clear hD
 generalize y5.drew = y6 at *
 refine tj 0 _ ?_
 try simp only [Act.put, ka, kb, kc]
 refine tj 1 ((lgV c.lg (.slice A n p))) ?_ (hy := fun wq hSw => run_ldAt rfl rfl hSw.1 (aggL _) (sizeL _))
 try simp only [Act.put, ka, kb, kc]
 refine tj 3 _ ?_
 try simp only [Act.put, ka, kb, kc]
 refine tj 4 _ ?_
 try simp only [Act.put, ka, kb, kc]
 refine rr [2] ?_
 refine rc (fun KQ hKQ => ?_) AllReadyH.nil
 go_simp
 have CC := enti.conf_any c.lg A n p y6 y6.heap.size R0 (Nat.le_refl _) hp HG.out.1
 refine (CC).mono ?_
 rintro e y7 ⟨rfl, hY⟩
 replace HB := bt HB hY
 replace kC := kC.b hY
 replace kM := kM.b hY
 replace kO := kO.b hY
 replace R0 := R0.on hY hY.size
 clear hY
 clear CC
 go_wp2_with fail
 refine hKQ.out _ _ (⟨at_cL (c := { c with vs := vs2 }) kC, kC.cell 23⟩) (fun _ => ?_)
 clear hKQ KQ
 try simp only [Act.put, ka, kb, kc]
 refine rr [5] ?_
 refine rc (fun KQ hKQ => ?_) AllReadyH.nil
 go_simp
 have CC := confi.elects_any (conC c) vs2 y7 HG.out.2.2.2.2.1 hv2l.out
 rw [hel.out] at CC
 refine (CC).mono ?_
 rintro e y8 ⟨rfl, hY⟩
 replace HB := bt HB hY
 replace kC := kC.b hY
 replace kM := kM.b hY
 replace kO := kO.b hY
 replace R0 := R0.on hY hY.size
 clear hY
 clear CC
 go_wp2_with fail
 refine hKQ.out _ _ (⟨at_cL (c := { c with vs := vs2 }) kC, kC.cell 23⟩) (fun _ => ?_)
 clear hKQ KQ
 try simp only [Act.put, ka, kb, kc]
 refine tj 6 _ ?_
 try simp only [Act.put, ka, kb, kc]
 refine wpAnyH_done (by kernel_rfl) ?_ _
 have hdE : { c with vs := vs2 } = vtC c mf := by rw [← hvs2.out]; rfl
 rw [hdE] at kC
 clear hdE
 rcases el with _ | _
 · skip
   have hE := Lib.hid (hV1.out hr1.out (by first | rfl | trivial) (by first | rfl | trivial))
   have hO := OutL.nil y8 y8.heap.size
   have hB7 := Lib.hid (HB.size)
   have RB := R0
   have RBz := Lib.hid (Nat.le_refl y8.heap.size)
   have LBhOkC := Lib.hid kC.lt
   have LBhOkM := Lib.hid kM.lt
   have LBhOkO := Lib.hid kO.lt
   have NIRBkO := NIR0kO
   obtain ⟨B9, hB9⟩ : ∃ q, y8.heap.size = q := ⟨_, rfl⟩
   rw [hB9] at hO hB7 RB RBz LBhOkC LBhOkM LBhOkO
   replace RBz := Lib.hid (show B9 ≤ y8.heap.size by rw [hB9]; exact Nat.le_refl _)
   clear hB9
   go_wp2_with (first | go_skip | refine st_C rfl _ _ rfl (vtC c mf) A n p rfl rfl _ kO rfl ?_ | (first | refine lo_Cj kC ?_ | refine lo_cLj kC ?_ | refine lo_cJj kC ?_ | refine lo_Mj kM ?_ | refine lo_mJj kM ?_ | refine lo_Cj kO ?_ | refine lo_cLj kO ?_ | refine lo_cJj kO ?_))
   intro y9 kO2 pO
   replace kC := kC.put pO (Nat.ne_of_lt LTkCkO.out)
   replace kM := kM.put pO (Nat.ne_of_lt LTkMkO.out)
   replace R0 := R0.putS pO NIR0kO.out
   replace hO := hO.put pO LBhOkO.out
   replace RB := RB.putN pO NIRBkO.out
   replace RBz := Lib.hid (Nat.le_trans RBz.out (Nat.le_of_eq pO.size.symm))
   replace HB := pO.below _ _ HB LEkO.out
   clear kO
   have kO := kO2
   clear kO2 pO
   go_wp2_with (first | go_skip | refine lo_Cj kC ?_ | refine lo_cLj kC ?_ | refine lo_cJj kC ?_ | refine lo_Mj kM ?_ | refine lo_mJj kM ?_ | refine lo_Cj kO ?_ | refine lo_cLj kO ?_ | refine lo_cJj kO ?_)
   (try simp only [Exit.inBlock, Exit.then])
   refine bodyPost_ret (res2 Tryz.results79 rfl rfl (aggC _) (sizeC _) (ldCv kO)) rfl ?_
   rw [hE.out]
   exact ⟨A, n, p, _, B9, rfl, RB, hp, OldNew.refl _ _ _, hO, hB7.out, RBz.out, HB⟩
 have hE := Lib.hid (hV2.out hr1.out (by first | rfl | trivial) (by first | rfl | trivial))
 go_wp2_with (first | go_skip | refine lo_Cj kC ?_ | refine lo_cLj kC ?_ | refine lo_cJj kC ?_ | refine lo_Mj kM ?_ | refine lo_mJj kM ?_ | refine lo_Cj kO ?_ | refine lo_cLj kO ?_ | refine lo_cJj kO ?_)
 refine (win_any (vtC c mf) A n p y8 y8.heap.size R0 (Nat.le_refl _) hp HG.out hid.out.1 hl2.out).mono ?_
 rintro e y9 ⟨A9, n9, p9, v9, B9, rfl, RB, hp9, ON9, hO, hB9, hB8, hY⟩
 have LBhOkC := Lib.hid (Nat.lt_of_lt_of_le kC.lt hB9)
 have LBhOkM := Lib.hid (Nat.lt_of_lt_of_le kM.lt hB9)
 have NIRBkO := Lib.hid (NIR0kO.out.next ON9 kO.lt)
 have LBhOkO := Lib.hid (Nat.lt_of_lt_of_le kO.lt hB9)
 have ON92 := Lib.hid ((OldNew.refl w.heap.size A n).trans ON9 HB.size)
 clear ON9
 have hB7 := Lib.hid (Nat.le_trans HB.size hB9)
 have RBz := Lib.hid hB8
 clear hB8 hB9
 replace HB := bt HB hY
 replace kC := kC.b hY
 replace kM := kM.b hY
 replace kO := kO.b hY
 replace R0 := R0.on hY hY.size
 clear hY
 go_wp2_with (first | go_skip | refine st_C rfl _ _ rfl (winC (vtC c mf)) A9 n9 p9 rfl rfl _ kO rfl ?_ | (first | refine lo_Cj kC ?_ | refine lo_cLj kC ?_ | refine lo_cJj kC ?_ | refine lo_Mj kM ?_ | refine lo_mJj kM ?_ | refine lo_Cj kO ?_ | refine lo_cLj kO ?_ | refine lo_cJj kO ?_))
 intro y10 kO2 pO
 replace kC := kC.put pO (Nat.ne_of_lt LTkCkO.out)
 replace kM := kM.put pO (Nat.ne_of_lt LTkMkO.out)
 replace R0 := R0.putS pO NIR0kO.out
 replace hO := hO.put pO LBhOkO.out
 replace RB := RB.putN pO NIRBkO.out
 replace RBz := Lib.hid (Nat.le_trans RBz.out (Nat.le_of_eq pO.size.symm))
 replace HB := pO.below _ _ HB LEkO.out
 clear kO
 have kO := kO2
 clear kO2 pO
 go_wp2_with (first | go_skip | refine lo_Cj kC ?_ | refine lo_cLj kC ?_ | refine lo_cJj kC ?_ | refine lo_Mj kM ?_ | refine lo_mJj kM ?_ | refine lo_Cj kO ?_ | refine lo_cLj kO ?_ | refine lo_cJj kO ?_)
 (try simp only [Exit.inBlock, Exit.then])
 refine bodyPost_ret (res2 Tryz.results79 rfl rfl (aggC _) (sizeC _) (ldCv kO)) rfl ?_
 rw [hE.out]
 exact ⟨A9, n9, p9, v9, B9, rfl, RB, hp9, ON92.out, hO, hB7.out, RBz.out, HB⟩
end Go.Proofs.YtegnfkbmlalkeaaGreat.cor
