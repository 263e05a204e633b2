/- The landed core: takeAck. Conditions: those that the theorem names. -/
import Derived.Deep.RegionHeld3
import Derived.Deep.Cut
import Derived.Lib.Hide
import Derived.Test.YtegnfkbmlalkeaaGreatSvJ2
import Derived.Test.YtegnfkbmlalkeaaGreatSvCorI13
import Derived.Test.YtegnfkbmlalkeaaGreatSvKitLg
import Derived.Test.YtegnfkbmlalkeaaGreatSvJ0
namespace Go.Proofs.YtegnfkbmlalkeaaGreat.cor
open Go Go.RowKit Go.Proofs.YtegnfkbmlalkeaaGreat.kit Go.Proofs.YtegnfkbmlalkeaaGreat.nums Go.Proofs.YtegnfkbmlalkeaaGreat.cf Go.Proofs.YtegnfkbmlalkeaaGreat.lg Go.Proofs.YtegnfkbmlalkeaaGreat.cr Go.Proofs.YtegnfkbmlalkeaaGreat.se
set_option linter.unusedVariables false
theorem nack_max (c : CoL) (j : Nat) (i : Int) : ref13.nackV c j i = max (min i (lastF c.lg)) (c.mt j) + 1 := by unfold ref13.nackV; omega
theorem mt_ack {c : CoL} {j : Nat} {i : Int} (h : Mt c) (hj : j < 10) : Mt (ref13.ackC c j i) := fun k hk => by
 have h1 := h k hk
 have h2 := h j hj
 show 0 ≤ upd c.mt j (ref13.ackV c j i) k ∧ upd c.mt j (ref13.ackV c j i) k ≤ lastF c.lg
 unfold upd ref13.ackV
 split <;> omega
set_option maxHeartbeats 4000000 in
set_option maxRecDepth 10000 in
theorem takeAck_any (c : CoL) (A : Option Addr) (n p : Nat) (m : MsL) (Am : Option Addr) (nm pm : Nat) (w : World) (B : Nat) (hR : RdE w B A n c.lg.es) (hB : B ≤ w.heap.size) (hp : n ≤ p) (hk : GoodK c) (hmf1 : 1 ≤ m.f ∧ m.f ≤ 9) (hi : 0 ≤ m.i ∧ m.i ≤ 1099511627776) : Calls Tryz.prog 81 #[crV c (.slice A n p), msV m (.slice Am nm pm)] w fun e w' => ∃ A' n' p' v B', e = .returned (.tuple #[crV (ackF c m).1 (.slice A' n' p'), v]) ∧ RdE w' B' A' n' (ackF c m).1.lg.es ∧ n' ≤ p' ∧ OldNew w.heap.size A n A' n' ∧ OutL w' B' v (ackF c m).2 ∧ w.heap.size ≤ B' ∧ B' ≤ w'.heap.size ∧ Below w.heap.size w w' := by
 have HK := Lib.hid hk
 have HF := Lib.hid hk.n.1
 have hid := Lib.hid (show 1 ≤ c.id ∧ c.id ≤ 9 from ⟨hk.id1, hk.n.2.2.2.1⟩)
 have hlen := Lib.hid hR.len
 have hi0 := Lib.hid hi
 obtain ⟨j, hmf⟩ : ∃ j : Nat, m.f = (j : Int) := ⟨m.f.toNat, by omega⟩
 have hj : j < 10 := by omega
 have hj9 := Lib.hid hj
 have hj1 : 1 ≤ j := by omega
 have cj1 : (j : Int) < 10 := by omega
 have cj0 : (0 : Int) ≤ (j : Int) := by omega
 have hE0 := Lib.hid (fun h => ref13.ack_out (c := c) (m := m) h)
 have hEn := Lib.hid (fun h hy => ref13.ack_no (c := c) (m := m) (j := j) h hmf hy)
 have hEy := Lib.hid (fun h hy => ref13.ack_yes (c := c) (m := m) (j := j) h hmf hy)
 obtain ⟨la, hla⟩ : ∃ q, lastF c.lg = q := ⟨_, rfl⟩
 have hla1 : 0 ≤ la ∧ la ≤ 2199023255550 := by rw [← hla]; exact ⟨by have := hk.n.1.1; unfold lastF; omega, hk.la⟩
 obtain ⟨mi, hmi⟩ : ∃ q, m.i = q := ⟨_, rfl⟩
 rw [hmi] at hi0 hEn hEy
 obtain ⟨mv, hmv⟩ : ∃ q, c.mt j = q := ⟨_, rfl⟩
 have hmv1 : 0 ≤ mv ∧ mv ≤ la := by rw [← hmv, ← hla]; exact hk.mt j hj
 obtain ⟨ro, hro⟩ : ∃ q, c.ro = q := ⟨_, rfl⟩
 obtain ⟨yb, hyb⟩ : ∃ q, m.y = q := ⟨_, rfl⟩
 rw [hro] at hE0 hEn hEy
 rw [hyb] at hEn hEy
 obtain ⟨n1, hn1⟩ : ∃ q, min mi la = q := ⟨_, rfl⟩
 have hn1b : 0 ≤ n1 ∧ n1 ≤ la := by have := hi0.out; omega
 have hNV : Hid (ref13.nackV c j mi = max n1 mv + 1) := by show _ = _; rw [nack_max, hla, hmv, hn1]
 have hAV : Hid (ref13.ackV c j mi = max mv n1) := by show _ = _; unfold ref13.ackV; rw [hla, hmv, hn1]
 have hMt := Lib.hid (mt_ack (c := c) (j := j) (i := mi) (fun k hk2 => hk.mt k hk2) hj)
 clear hk hi
 replace hmf := Lib.hid hmf
 replace hla := Lib.hid hla
 replace hla1 := Lib.hid hla1
 replace hmi := Lib.hid hmi
 replace hmv := Lib.hid hmv
 replace hmv1 := Lib.hid hmv1
 replace hro := Lib.hid hro
 replace hyb := Lib.hid hyb
 replace hn1 := Lib.hid hn1
 replace hn1b := Lib.hid hn1b
 have R0 := hR.more hB
 clear hR hB
 go_enter Tryz.func81, Tryz.ntmps81
 have NIR0kC := Lib.hid (NotIn.of_rd R0 (Nat.le_refl _))
 have LEkC : Hid (w.heap.size ≤ w.heap.size) := Nat.le_refl _
 go_wp2_with (first | go_skip | refine box_C rfl _ rfl c (.slice A n p) rfl ?_ | fail)
 intro y1 kC e1 s1
 clear s1
 have HB := e1
 replace R0 := R0.on e1 e1.size
 clear e1
 have LTkCkM := Lib.hid kC.lt
 go_wp2_with (first | go_skip | refine box_M rfl _ rfl m (.slice Am nm pm) rfl ?_ | (first | refine lo_Cj kC ?_ | refine lo_cLj kC ?_ | refine lo_cJj kC ?_))
 intro y2 kM e2 s2
 clear s2
 replace HB := bt HB e2
 replace kC := kC.b e2
 replace R0 := R0.on e2 e2.size
 clear e2
 generalize y1.heap.size = gkM at *
 have LTkCkO := Lib.hid kC.lt
 have LTkMkO := Lib.hid kM.lt
 have NIR0kO := Lib.hid (NotIn.of_rd R0 (Nat.le_refl _))
 have LEkO : Hid (w.heap.size ≤ y2.heap.size) := HB.size
 go_wp2_with (first | go_skip | refine al_C rfl rfl ?_ | (first | refine lo_Cj kC ?_ | refine lo_cLj kC ?_ | refine lo_cJj kC ?_ | refine lo_Mj kM ?_ | refine lo_mJj kM ?_))
 intro y3 kO e3 s3
 clear s3
 replace kO : Blk _ _ _ (crC zC (.slice none 0 0)) := kO
 replace HB := bt HB e3
 replace kC := kC.b e3
 replace kM := kM.b e3
 replace R0 := R0.on e3 e3.size
 clear e3
 generalize y2.heap.size = gkO at *
 have c_ro : y3.cell? ⟨w.heap.size, 1, none⟩ = some (.int .i64 ro) := by rw [← hro.out]; exact kC.cell 1
 by_cases h2 : ro = 2
 rotate_left
 · skip
   have br : (ro != 2) = true := by simp [h2]
   have hE := Lib.hid (hE0.out h2)
   replace h2 := Lib.hid h2
   have hO := OutL.nil y3 y3.heap.size
   have hB7 := Lib.hid (HB.size)
   have RB := R0
   have RBz := Lib.hid (Nat.le_refl y3.heap.size)
   have LBhOkC := Lib.hid kC.lt
   have LBhOkM := Lib.hid kM.lt
   have LBhOkO := Lib.hid kO.lt
   have NIRBkO := NIR0kO
   obtain ⟨B9, hB9⟩ : ∃ q, y3.heap.size = q := ⟨_, rfl⟩
   rw [hB9] at hO hB7 RB RBz LBhOkC LBhOkM LBhOkO
   replace RBz := Lib.hid (show B9 ≤ y3.heap.size by rw [hB9]; exact Nat.le_refl _)
   clear hB9
   go_wp2_with (first | go_skip | refine st_C rfl _ _ rfl c A n p rfl rfl _ kO rfl ?_ | (first | refine lo_Cj kC ?_ | refine lo_cLj kC ?_ | refine lo_cJj kC ?_ | refine lo_Mj kM ?_ | refine lo_mJj kM ?_ | refine lo_Cj kO ?_ | refine lo_cLj kO ?_ | refine lo_cJj kO ?_))
   intro y4 kO2 pO
   replace kC := kC.put pO (Nat.ne_of_lt LTkCkO.out)
   replace kM := kM.put pO (Nat.ne_of_lt LTkMkO.out)
   replace R0 := R0.putS pO NIR0kO.out
   replace hO := hO.put pO LBhOkO.out
   replace RB := RB.putN pO NIRBkO.out
   replace RBz := Lib.hid (Nat.le_trans RBz.out (Nat.le_of_eq pO.size.symm))
   replace HB := pO.below _ _ HB LEkO.out
   clear kO
   have kO := kO2
   clear kO2 pO
   clear c_ro
   go_wp2_with (first | go_skip | refine lo_Cj kC ?_ | refine lo_cLj kC ?_ | refine lo_cJj kC ?_ | refine lo_Mj kM ?_ | refine lo_mJj kM ?_ | refine lo_Cj kO ?_ | refine lo_cLj kO ?_ | refine lo_cJj kO ?_)
   (try simp only [Exit.inBlock, Exit.then])
   refine bodyPost_ret (res2 Tryz.results81 rfl rfl (aggC _) (sizeC _) (ldCv kO)) rfl ?_
   rw [hE.out]
   first | exact ⟨A, n, p, _, B9, rfl, RB, hp, OldNew.refl _ _ _, hO, hB7.out, RBz.out, HB⟩ | exact ⟨A, n, p, _, rfl, B9, RB, hp, OldNew.refl _ _ _, hO, hB7.out, RBz.out, HB⟩
 have br : (ro != 2) = false := by simp [h2]
 replace h2 := Lib.hid h2
 go_upto_region 3 with (first | go_skip | refine lo_Cj kC ?_ | refine lo_cLj kC ?_ | refine lo_cJj kC ?_ | refine lo_Mj kM ?_ | refine lo_mJj kM ?_ | refine lo_Cj kO ?_ | refine lo_cLj kO ?_ | refine lo_cJj kO ?_)
 refine wp_region_held_drew (S := fun wq => At wq w.heap.size 8 (lgC c.lg (.slice A n p)) ∧ wq.cell? ⟨gkM, 1, none⟩ = some (.int .i64 (j : Int)) ∧ wq.cell? ⟨gkM, 4, none⟩ = some (.int .i64 mi)) (by kernel_rfl) ?s_tkk3 (fun hHeld => ?_)
 case s_tkk3 => exact ⟨at_cL kC, by rw [← hmf.out]; exact kM.cell 1, by rw [← hmi.out]; exact kM.cell 4⟩
 have hD := (Below.refl y3.heap.size y3).drew
 replace HB := bt HB hD
 replace kC := kC.b hD
 replace kM := kM.b hD
 replace kO := kO.b hD
 replace R0 := R0.on hD hD.size
 clear hD
 generalize y3.drew = y4 at *
 refine tj 0 _ ?_
 try simp only [Act.put, ka, kb, kc]
 refine tj 1 _ ?_
 try simp only [Act.put, ka, kb, kc]
 refine tj 2 _ ?_
 try simp only [Act.put, ka, kb, kc]
 refine tj 3 _ ?_
 try simp only [Act.put, ka, kb, kc]
 refine tj 4 _ ?_
 try simp only [Act.put, ka, kb, kc]
 refine tj 5 ((lgV c.lg (.slice A n p))) ?_ (hy := fun wq hSw => run_ldAt rfl rfl hSw.1 (aggL _) (sizeL _))
 try simp only [Act.put, ka, kb, kc]
 refine rr [6] ?_
 refine rc (fun KQ hKQ => ?_) AllReadyH.nil
 go_simp
 have CC := enti.last_any c.lg A n p y4 hlen.out HF.out
 rw [hla.out] at CC
 refine (CC).mono ?_
 rintro e y5 ⟨rfl, hY⟩
 replace HB := bt HB hY
 replace kC := kC.b hY
 replace kM := kM.b hY
 replace kO := kO.b hY
 replace R0 := R0.on hY hY.size
 clear hY
 clear CC
 go_wp2_with fail
 refine hKQ.out _ _ (⟨at_cL kC, by rw [← hmf.out]; exact kM.cell 1, by rw [← hmi.out]; exact kM.cell 4⟩) (fun _ => ?_)
 clear hKQ KQ
 try simp only [Act.put, ka, kb, kc]
 refine tj 7 ((.int .i64 n1)) ?_ (hy := fun wq hSw => rb_minz rfl rfl rfl rfl hn1.out)
 try simp only [Act.put, ka, kb, kc]
 refine tj 8 _ ?_
 try simp only [Act.put, ka, kb, kc]
 refine tj 9 _ ?_
 try simp only [Act.put, ka, kb, kc]
 refine wpAnyH_done (by kernel_rfl) ?_ _
 clear c_ro
 have che : y5.cell? ⟨w.heap.size, 24, none⟩ = some (.int .u16 (c.he : Int)) := kC.cell 24
 go_wp2_with (first | go_skip | refine lo_Cj kC ?_ | refine lo_cLj kC ?_ | refine lo_cJj kC ?_ | refine lo_Mj kM ?_ | refine lo_mJj kM ?_ | refine lo_Cj kO ?_ | refine lo_cLj kO ?_ | refine lo_cJj kO ?_)
 have CC := seti.with_any c.he (j : Int) y5 HK.out.he (by have := hj9.out; omega) (by have := hj9.out; omega)
 refine (CC).mono ?_
 rintro e y6 ⟨rfl, hY⟩
 replace HB := bt HB hY
 replace kC := kC.b hY
 replace kM := kM.b hY
 replace kO := kO.b hY
 replace R0 := R0.on hY hY.size
 clear hY
 clear CC che
 have df := fun i => kC.frozen i
 have cR24 : _ = some _ := kC.cell 24
 go_upto_region 5 with (go_skip)
 clear df cR24
 have kC2 : Blk 33 _ w.heap.size (crC (ref13.hearC c j) (.slice A n p)) := kC.set_ 24 (.int .u16 ((withF c.he (j : Int) : Nat) : Int))
 have pO := put_set y6 w.heap.size (24) (.int .u16 ((withF c.he (j : Int) : Nat) : Int))
 generalize (y6.setCell ⟨w.heap.size, 24, none⟩ (.int .u16 ((withF c.he (j : Int) : Nat) : Int))) = y7 at *
 replace kM := kM.put pO (Nat.ne_of_gt LTkCkM.out)
 replace kO := kO.put pO (Nat.ne_of_gt LTkCkO.out)
 replace R0 := R0.putS pO NIR0kC.out
 replace HB := pO.below _ _ HB LEkC.out
 clear kC
 have kC := kC2
 clear kC2 pO
 have c_y : y7.cell? ⟨gkM, 8, none⟩ = some (.bool yb) := by rw [← hyb.out]; exact kM.cell 8
 rcases yb with _ | _
 · skip
   have hE := Lib.hid (hEn.out h2.out (by first | rfl | trivial))
   clear hEn hEy hE0
   obtain ⟨mx, hmx⟩ : ∃ q, max n1 mv = q := ⟨_, rfl⟩
   have hNx : Hid (ref13.nackV c j mi = mx + 1) := by show _ = _; rw [hNV.out, hmx]
   have w1 : IntKind.i64.wrap (mx + 1) = mx + 1 := by have := hla1.out; have := hmv1.out; have := hn1b.out; rw [wrap_sm (by omega) (by omega)]
   have hnb : Hid (0 ≤ mx + 1 ∧ mx + 1 ≤ 2199023255552) := by have := hla1.out; have := hmv1.out; have := hn1b.out; show _ ∧ _; omega
   have cmt : y7.cell? ⟨w.heap.size, 35 + j, none⟩ = some (.int .i64 mv) := by rw [← hmv.out]; exact cr_mt kC hj9.out
   have df := fun i => kC.frozen i
   have cR := cr_nx kC hj9.out
   go_upto_region 7 with (first | go_skip | refine lo_Cj kC ?_ | refine lo_cLj kC ?_ | refine lo_cJj kC ?_ | refine lo_Mj kM ?_ | refine lo_mJj kM ?_ | refine lo_Cj kO ?_ | refine lo_cLj kO ?_ | refine lo_cJj kO ?_)
   clear df cR
   have kC2 := crset_nx kC hj9.out (mx + 1)
   have pO := put_set y7 w.heap.size (25 + j) (.int .i64 (mx + 1))
   generalize (y7.setCell ⟨w.heap.size, 25 + j, none⟩ (.int .i64 (mx + 1))) = y8 at *
   replace kM := kM.put pO (Nat.ne_of_gt LTkCkM.out)
   replace kO := kO.put pO (Nat.ne_of_gt LTkCkO.out)
   replace R0 := R0.putS pO NIR0kC.out
   replace HB := pO.below _ _ HB LEkC.out
   clear kC
   have kC := kC2
   clear kC2 pO
   clear cmt c_y w1 hmx
   have hcE : { ref13.hearC c j with nx := upd (ref13.hearC c j).nx j (mx + 1) } = ref13.nackC c j mi := by unfold ref13.nackC; rw [hNx.out]; rfl
   rw [hcE] at kC
   clear hcE
   go_upto_region 7 with (first | go_skip | refine lo_Cj kC ?_ | refine lo_cLj kC ?_ | refine lo_cJj kC ?_ | refine lo_Mj kM ?_ | refine lo_mJj kM ?_ | refine lo_Cj kO ?_ | refine lo_cLj kO ?_ | refine lo_cJj kO ?_)
   refine wp_region_held_drew (S := fun wq => Blk 33 wq w.heap.size (crC (ref13.nackC c j mi) (.slice A n p))) (by kernel_rfl) ?s_tkk7 (fun hHeld => ?_)
   case s_tkk7 => exact kC
   have hD := (Below.refl y8.heap.size y8).drew
   replace HB := bt HB hD
   replace kC := kC.b hD
   replace kM := kM.b hD
   replace kO := kO.b hD
   replace R0 := R0.on hD hD.size
   clear hD
   generalize y8.drew = yq at *
   refine tj 0 _ ?_ (hy := fun wq hSw => rld_C rfl rfl (id hSw))
   try simp only [Act.put, ka, kb, kc]
   refine tj 1 _ ?_ (hy := fun wq hSw => rld_C rfl rfl (id hSw))
   try simp only [Act.put, ka, kb, kc]
   refine tj 2 _ ?_
   try simp only [Act.put, ka, kb, kc]
   refine rr [3] ?_
   refine rc (fun KQ hKQ => ?_) AllReadyH.nil
   go_simp
   have LBhOkC := Lib.hid kC.lt
   have LBhOkM := Lib.hid kM.lt
   have LBhOkO := Lib.hid kO.lt
   have NIRBkO := NIR0kO
   have RB := R0
   have hB7 := Lib.hid HB.size
   have RBz := Lib.hid (Nat.le_refl yq.heap.size)
   have CC := send_any (ref13.nackC c j mi) A n p j yq yq.heap.size R0 (Nat.le_refl _) hp HF.out hj9.out (by show 0 ≤ upd c.nx j (ref13.nackV c j mi) j ∧ upd c.nx j (ref13.nackV c j mi) j ≤ _; rw [ref13.upd_self, hNx.out]; exact hnb.out)
   obtain ⟨B9, hB9⟩ : ∃ q, yq.heap.size = q := ⟨_, rfl⟩
   rw [hB9] at CC RB hB7 RBz LBhOkC LBhOkM LBhOkO
   replace RBz := Lib.hid (show B9 ≤ yq.heap.size by rw [hB9]; exact Nat.le_refl _)
   have hB9z := Lib.hid hB9
   clear hB9
   refine CC.mono ?_
   rintro e yq2 ⟨A7, n7, p7, rfl, hE7, hY⟩
   rw [← hB9z.out] at hY
   clear CC hB9z
   replace hE7 := Lib.hid hE7
   replace RB := RB.below (hY.mono RBz.out)
   replace RBz := Lib.hid (Nat.le_trans RBz.out hY.size)
   replace HB := bt HB hY
   replace kC := kC.b hY
   replace kM := kM.b hY
   replace kO := kO.b hY
   replace R0 := R0.on hY hY.size
   clear hY
   obtain ⟨yq, hyq⟩ : ∃ z, z = yq2 := ⟨_, rfl⟩
   subst hyq
   go_wp2_with fail
   refine hKQ.out _ _ (kC) (fun _ => ?_)
   clear hKQ KQ
   try simp only [Act.put, ka, kb, kc]
   refine rr [4, 5] ?_
   refine rc (fun KQ hKQ => ?_) (rc (fun KQ hKQ => ?_) (AllReadyH.nil))
   · refine step_bsR rfl _ 38 rfl _ rfl _ (run_bsM2 (sendF (ref13.nackC c j mi) (j : Int)) (.slice A7 n7 p7) yq) ?_
     rintro v yq2 ⟨rfl, kB, hX⟩
     have hO := OutL.one (B := B9) kB (hE7.out.below hX) RBz.out
     replace RB := RB.below (hX.mono RBz.out)
     replace RBz := Lib.hid (Nat.le_trans RBz.out hX.size)
     clear kB
     replace HB := bt HB hX
     replace kC := kC.b hX
     replace kM := kM.b hX
     replace kO := kO.b hX
     replace R0 := R0.on hX hX.size
     clear hX
     obtain ⟨yq, hyq⟩ : ∃ z, z = yq2 := ⟨_, rfl⟩
     subst hyq
     refine hKQ.out _ _ (kC) (fun _ => ?_)
     clear hKQ KQ
     try simp only [Act.put, ka, kb, kc]
     refine rr [5] ?_
     refine rc (fun KQ hKQ => ?_) AllReadyH.nil
     refine step_stAt rfl 33 _ _ rfl (cells := (crC (ref13.nackC c j mi) (.slice A n p)).toArray) (crC (ref13.nackC c j mi) (.slice A n p)) rfl rfl kO sizeCv (by show 0 + 45 ≤ 45; omega) (cr_one _) rfl ?_
     intro yq2 kO2 pO
     try replace hO := hO.put pO LBhOkO.out
     try replace RB := RB.putN pO NIRBkO.out
     try replace RBz := Lib.hid (Nat.le_trans RBz.out (Nat.le_of_eq pO.size.symm))
     try replace hE7 := Lib.hid (hE7.out.put pO LBhOkO.out)
     replace kC := kC.put pO (Nat.ne_of_lt LTkCkO.out)
     replace kM := kM.put pO (Nat.ne_of_lt LTkMkO.out)
     replace R0 := R0.putS pO NIR0kO.out
     replace HB := pO.below _ _ HB LEkO.out
     clear kO
     have kO := kO2
     clear kO2 pO
     obtain ⟨yq, hyq⟩ : ∃ z, z = yq2 := ⟨_, rfl⟩
     subst hyq
     refine hKQ.out _ _ (kC) (fun _ => ?_)
     clear hKQ KQ
     try simp only [Act.put]
     refine tj 6 _ ?_
     try simp only [Act.put, ka, kb, kc]
     refine wpAnyH_done (by kernel_rfl) ?_ _
     simp only [Exit.then]
     refine (‹∀ (a : Act) (w : World), Code.wp _ Code.ret _ a w → _›) _ _ (wp_ret ?_)
     (try simp only [Exit.inBlock]); (try simp only [Exit.then])
     show bodyPost _ _ _ Exit.ret _ _
     refine bodyPost_ret (res2 Tryz.results81 rfl rfl (aggC _) (sizeC _) (ldCv kO)) rfl ?_
     rw [hE.out]
     first | exact ⟨A, n, p, _, B9, rfl, RB, hp, OldNew.refl _ _ _, hO, hB7.out, RBz.out, HB⟩ | exact ⟨A, n, p, _, rfl, B9, RB, hp, OldNew.refl _ _ _, hO, hB7.out, RBz.out, HB⟩
   · refine step_stAt rfl 33 _ _ rfl (cells := (crC (ref13.nackC c j mi) (.slice A n p)).toArray) (crC (ref13.nackC c j mi) (.slice A n p)) rfl rfl kO sizeCv (by show 0 + 45 ≤ 45; omega) (cr_one _) rfl ?_
     intro yq2 kO2 pO
     try replace hO := hO.put pO LBhOkO.out
     try replace RB := RB.putN pO NIRBkO.out
     try replace RBz := Lib.hid (Nat.le_trans RBz.out (Nat.le_of_eq pO.size.symm))
     try replace hE7 := Lib.hid (hE7.out.put pO LBhOkO.out)
     replace kC := kC.put pO (Nat.ne_of_lt LTkCkO.out)
     replace kM := kM.put pO (Nat.ne_of_lt LTkMkO.out)
     replace R0 := R0.putS pO NIR0kO.out
     replace HB := pO.below _ _ HB LEkO.out
     clear kO
     have kO := kO2
     clear kO2 pO
     obtain ⟨yq, hyq⟩ : ∃ z, z = yq2 := ⟨_, rfl⟩
     subst hyq
     refine hKQ.out _ _ (kC) (fun _ => ?_)
     clear hKQ KQ
     try simp only [Act.put]
     refine rr [4] ?_
     refine rc (fun KQ hKQ => ?_) AllReadyH.nil
     refine step_bsR rfl _ 38 rfl _ rfl _ (run_bsM2 (sendF (ref13.nackC c j mi) (j : Int)) (.slice A7 n7 p7) yq) ?_
     rintro v yq2 ⟨rfl, kB, hX⟩
     have hO := OutL.one (B := B9) kB (hE7.out.below hX) RBz.out
     replace RB := RB.below (hX.mono RBz.out)
     replace RBz := Lib.hid (Nat.le_trans RBz.out hX.size)
     clear kB
     replace HB := bt HB hX
     replace kC := kC.b hX
     replace kM := kM.b hX
     replace kO := kO.b hX
     replace R0 := R0.on hX hX.size
     clear hX
     obtain ⟨yq, hyq⟩ : ∃ z, z = yq2 := ⟨_, rfl⟩
     subst hyq
     refine hKQ.out _ _ (kC) (fun _ => ?_)
     clear hKQ KQ
     try simp only [Act.put, ka, kb, kc]
     refine tj 6 _ ?_
     try simp only [Act.put, ka, kb, kc]
     refine wpAnyH_done (by kernel_rfl) ?_ _
     simp only [Exit.then]
     refine (‹∀ (a : Act) (w : World), Code.wp _ Code.ret _ a w → _›) _ _ (wp_ret ?_)
     (try simp only [Exit.inBlock]); (try simp only [Exit.then])
     show bodyPost _ _ _ Exit.ret _ _
     refine bodyPost_ret (res2 Tryz.results81 rfl rfl (aggC _) (sizeC _) (ldCv kO)) rfl ?_
     rw [hE.out]
     first | exact ⟨A, n, p, _, B9, rfl, RB, hp, OldNew.refl _ _ _, hO, hB7.out, RBz.out, HB⟩ | exact ⟨A, n, p, _, rfl, B9, RB, hp, OldNew.refl _ _ _, hO, hB7.out, RBz.out, HB⟩
 have hE := Lib.hid (hEy.out h2.out (by first | rfl | trivial))
 clear hEn hEy hE0
 obtain ⟨v, hv⟩ : ∃ q, max mv n1 = q := ⟨_, rfl⟩
 have hAx : Hid (ref13.ackV c j mi = v) := by show _ = _; rw [hAV.out, hv]
 have hvb : Hid (0 ≤ v ∧ v ≤ la) := by have := hmv1.out; have := hn1b.out; show _ ∧ _; omega
 have w1 : IntKind.i64.wrap (v + 1) = v + 1 := by have := hla1.out; have := hvb.out; rw [wrap_sm (by omega) (by omega)]
 have cmt : y7.cell? ⟨w.heap.size, 35 + j, none⟩ = some (.int .i64 mv) := by rw [← hmv.out]; exact cr_mt kC hj9.out
 have df := fun i => kC.frozen i
 have cR := cr_mt kC hj9.out
 go_upto_region 9 with (first | go_skip | refine lo_Cj kC ?_ | refine lo_cLj kC ?_ | refine lo_cJj kC ?_ | refine lo_Mj kM ?_ | refine lo_mJj kM ?_ | refine lo_Cj kO ?_ | refine lo_cLj kO ?_ | refine lo_cJj kO ?_)
 clear df cR
 have kC2 := crset_mt kC hj9.out (v)
 have pO := put_set y7 w.heap.size (35 + j) (.int .i64 (v))
 generalize (y7.setCell ⟨w.heap.size, 35 + j, none⟩ (.int .i64 (v))) = y8 at *
 replace kM := kM.put pO (Nat.ne_of_gt LTkCkM.out)
 replace kO := kO.put pO (Nat.ne_of_gt LTkCkO.out)
 replace R0 := R0.putS pO NIR0kC.out
 replace HB := pO.below _ _ HB LEkC.out
 clear kC
 have kC := kC2
 clear kC2 pO
 replace hv := Lib.hid hv
 clear cmt c_y
 have hcE : { ref13.hearC c j with mt := upd (ref13.hearC c j).mt j v } = ref13.ackM c j mi := by unfold ref13.ackM; rw [hAx.out]; rfl
 rw [hcE] at kC
 clear hcE
 have cmt : y8.cell? ⟨w.heap.size, 35 + j, none⟩ = some (.int .i64 v) := by have h := cr_mt kC hj9.out; rw [show (ref13.ackM c j mi).mt j = ref13.ackV c j mi from ref13.upd_self _ _ _, hAx.out] at h; exact h
 have df := fun i => kC.frozen i
 have cR := cr_nx kC hj9.out
 go_upto_region 10 with (first | go_skip | refine lo_Cj kC ?_ | refine lo_cLj kC ?_ | refine lo_cJj kC ?_ | refine lo_Mj kM ?_ | refine lo_mJj kM ?_ | refine lo_Cj kO ?_ | refine lo_cLj kO ?_ | refine lo_cJj kO ?_)
 clear df cR
 have kC2 := crset_nx kC hj9.out (v + 1)
 have pO := put_set y8 w.heap.size (25 + j) (.int .i64 (v + 1))
 generalize (y8.setCell ⟨w.heap.size, 25 + j, none⟩ (.int .i64 (v + 1))) = y9 at *
 replace kM := kM.put pO (Nat.ne_of_gt LTkCkM.out)
 replace kO := kO.put pO (Nat.ne_of_gt LTkCkO.out)
 replace R0 := R0.putS pO NIR0kC.out
 replace HB := pO.below _ _ HB LEkC.out
 clear kC
 have kC := kC2
 clear kC2 pO
 clear cmt w1
 have hcE : { ref13.ackM c j mi with nx := upd (ref13.ackM c j mi).nx j (v + 1) } = ref13.ackC c j mi := by unfold ref13.ackC; rw [hAx.out]; rfl
 rw [hcE] at kC
 clear hcE
 go_wp2_with (first | go_skip | refine lo_Cj kC ?_ | refine lo_cLj kC ?_ | refine lo_cJj kC ?_ | refine lo_Mj kM ?_ | refine lo_mJj kM ?_ | refine lo_Cj kO ?_ | refine lo_cLj kO ?_ | refine lo_cJj kO ?_)
 have hGA : Hid (GoodN (ref13.ackC c j mi) 700000) := HK.out.n
 refine (count_any (ref13.ackC c j mi) A n p y9 y9.heap.size R0 (Nat.le_refl _) hp (ref13.good_more hGA.out (by omega)) hMt.out hid.out.1).mono ?_
 rintro e y10 ⟨A2, n2, p2, rfl, R2, hp2, ON2, hY⟩
 have NIR2kC := Lib.hid (NIR0kC.out.next ON2 kC.lt)
 have NIR2kO := Lib.hid (NIR0kO.out.next ON2 kO.lt)
 have ON22 := Lib.hid ((OldNew.refl w.heap.size A n).trans ON2 HB.size)
 clear ON2
 replace HB := bt HB hY
 replace kC := kC.b hY
 replace kM := kM.b hY
 replace kO := kO.b hY
 replace R0 := R0.on hY hY.size
 clear hY
 obtain ⟨d, hd⟩ : ∃ q, couC (ref13.ackC c j mi) = q := ⟨_, rfl⟩
 have hGd : Hid (GoodN d 700001) := by show GoodN _ _; rw [← hd]; exact ref13.good_cou hGA.out (by omega)
 have hdn : Hid (d.nx j = v + 1) := by show _ = _; rw [← hd, ref13.couC_nx]; show upd c.nx j (ref13.ackV c j mi + 1) j = _; rw [ref13.upd_self, hAx.out]
 rw [hd] at R2 hE ⊢
 clear hd
 obtain ⟨r2, hr⟩ : ∃ q, d.ro = q := ⟨_, rfl⟩
 obtain ⟨ld, hld⟩ : ∃ q, lastF d.lg = q := ⟨_, rfl⟩
 have hlenD := Lib.hid R2.len
 rw [hr, show nxF d (j : Int) = d.nx j from rfl, hdn.out, hld] at hE
 replace hr := Lib.hid hr
 replace hld := Lib.hid hld
 go_wp2_with (first | go_skip | refine st_C rfl _ _ rfl d A2 n2 p2 rfl rfl _ kC rfl ?_ | (first | refine lo_Cj kC ?_ | refine lo_cLj kC ?_ | refine lo_cJj kC ?_ | refine lo_Mj kM ?_ | refine lo_mJj kM ?_ | refine lo_Cj kO ?_ | refine lo_cLj kO ?_ | refine lo_cJj kO ?_))
 intro y11 kC2 pO
 replace kM := kM.put pO (Nat.ne_of_gt LTkCkM.out)
 replace kO := kO.put pO (Nat.ne_of_gt LTkCkO.out)
 replace R0 := R0.putS pO NIR0kC.out
 replace R2 := R2.putS pO NIR2kC.out
 replace HB := pO.below _ _ HB LEkC.out
 clear kC
 have kC := kC2
 clear kC2 pO
 go_upto_region 11 with (first | go_skip | refine lo_Cj kC ?_ | refine lo_cLj kC ?_ | refine lo_cJj kC ?_ | refine lo_Mj kM ?_ | refine lo_mJj kM ?_ | refine lo_Cj kO ?_ | refine lo_cLj kO ?_ | refine lo_cJj kO ?_)
 by_cases hr2 : r2 = 2
 rotate_left
 · skip
   have hbr : (r2 != 2) = true := by simp [hr2]
   have hE2 := hE.out
   rw [if_neg (fun h => hr2 h.1)] at hE2
   replace hE2 := Lib.hid hE2
   replace hr2 := Lib.hid hr2
   clear hE
   refine wp_region_held_drew (S := fun wq => At wq w.heap.size 8 (lgC d.lg (.slice A2 n2 p2)) ∧ wq.cell? ⟨w.heap.size, 1, none⟩ = some (.int .i64 r2) ∧ wq.cell? ⟨w.heap.size, 25 + j, none⟩ = some (.int .i64 (v + 1))) (by kernel_rfl) ?s_tkk11a (fun hHeld => ?_)
   case s_tkk11a => exact ⟨at_cL kC, by rw [← hr.out]; exact kC.cell 1, by rw [← hdn.out]; exact cr_nx kC hj9.out⟩
   have hD := (Below.refl y11.heap.size y11).drew
   replace HB := bt HB hD
   replace kC := kC.b hD
   replace kM := kM.b hD
   replace kO := kO.b hD
   replace R0 := R0.on hD hD.size
   replace R2 := R2.on hD hD.size
   clear hD
   generalize y11.drew = y12 at *
   refine tj 0 _ ?_
   try simp only [Act.put, ka, kb, kc]
   refine tj 1 _ ?_
   try simp only [Act.put, ka, kb, kc]
   refine tj 2 _ ?_
   try simp only [Act.put, ka, kb, kc]
   refine tj 3 _ ?_
   try simp only [Act.put, ka, kb, kc]
   refine tv 4 ?_
   try simp only [Act.put, ka, kb, kc]
   refine tv 5 ?_
   try simp only [Act.put, ka, kb, kc]
   refine tv 6 ?_
   try simp only [Act.put, ka, kb, kc]
   refine tv 7 ?_
   try simp only [Act.put, ka, kb, kc]
   refine tv 8 ?_
   try simp only [Act.put, ka, kb, kc]
   refine tv 9 ?_
   try simp only [Act.put, ka, kb, kc]
   refine tv 10 ?_
   try simp only [Act.put, ka, kb, kc]
   refine tv 11 ?_
   try simp only [Act.put, ka, kb, kc]
   refine tj 12 _ ?_
   try simp only [Act.put, ka, kb, kc]
   refine wpAnyH_done (by kernel_rfl) ?_ _
   have hO := OutL.nil y12 y12.heap.size
   have hB7 := Lib.hid (HB.size)
   have RB := R2
   have RBz := Lib.hid (Nat.le_refl y12.heap.size)
   have LBhOkC := Lib.hid kC.lt
   have LBhOkM := Lib.hid kM.lt
   have LBhOkO := Lib.hid kO.lt
   have NIRBkO := NIR2kO
   obtain ⟨B9, hB9⟩ : ∃ q, y12.heap.size = q := ⟨_, rfl⟩
   rw [hB9] at hO hB7 RB RBz LBhOkC LBhOkM LBhOkO
   replace RBz := Lib.hid (show B9 ≤ y12.heap.size by rw [hB9]; exact Nat.le_refl _)
   clear hB9
   go_wp2_with (first | go_skip | refine st_C rfl _ _ rfl d A2 n2 p2 rfl rfl _ kO rfl ?_ | (first | refine lo_Cj kC ?_ | refine lo_cLj kC ?_ | refine lo_cJj kC ?_ | refine lo_Mj kM ?_ | refine lo_mJj kM ?_ | refine lo_Cj kO ?_ | refine lo_cLj kO ?_ | refine lo_cJj kO ?_))
   intro y13 kO2 pO
   replace kC := kC.put pO (Nat.ne_of_lt LTkCkO.out)
   replace kM := kM.put pO (Nat.ne_of_lt LTkMkO.out)
   replace R0 := R0.putS pO NIR0kO.out
   replace R2 := R2.putS pO NIR2kO.out
   replace hO := hO.put pO LBhOkO.out
   replace RB := RB.putN pO NIRBkO.out
   replace RBz := Lib.hid (Nat.le_trans RBz.out (Nat.le_of_eq pO.size.symm))
   replace HB := pO.below _ _ HB LEkO.out
   clear kO
   have kO := kO2
   clear kO2 pO
   go_wp2_with (first | go_skip | refine lo_Cj kC ?_ | refine lo_cLj kC ?_ | refine lo_cJj kC ?_ | refine lo_Mj kM ?_ | refine lo_mJj kM ?_ | refine lo_Cj kO ?_ | refine lo_cLj kO ?_ | refine lo_cJj kO ?_)
   (try simp only [Exit.inBlock, Exit.then])
   refine bodyPost_ret (res2 Tryz.results81 rfl rfl (aggC _) (sizeC _) (ldCv kO)) rfl ?_
   rw [hE2.out]
   first | exact ⟨A2, n2, p2, _, B9, rfl, RB, hp2, ON22.out, hO, hB7.out, RBz.out, HB⟩ | exact ⟨A2, n2, p2, _, rfl, B9, RB, hp2, ON22.out, hO, hB7.out, RBz.out, HB⟩
 have hbr : (r2 != 2) = false := by simp [hr2]
 replace hr2 := Lib.hid hr2
 by_cases hgt : v + 1 > ld
 · skip
   have hgt2 := Lib.hid hgt
   have hE2 := hE.out
   rw [if_neg (fun h => by have := h.2; omega)] at hE2
   replace hE2 := Lib.hid hE2
   clear hgt hE
   refine wp_region_held_drew (S := fun wq => At wq w.heap.size 8 (lgC d.lg (.slice A2 n2 p2)) ∧ wq.cell? ⟨w.heap.size, 1, none⟩ = some (.int .i64 r2) ∧ wq.cell? ⟨w.heap.size, 25 + j, none⟩ = some (.int .i64 (v + 1))) (by kernel_rfl) ?s_tkk11b (fun hHeld => ?_)
   case s_tkk11b => exact ⟨at_cL kC, by rw [← hr.out]; exact kC.cell 1, by rw [← hdn.out]; exact cr_nx kC hj9.out⟩
   have hD := (Below.refl y11.heap.size y11).drew
   replace HB := bt HB hD
   replace kC := kC.b hD
   replace kM := kM.b hD
   replace kO := kO.b hD
   replace R0 := R0.on hD hD.size
   replace R2 := R2.on hD hD.size
   clear hD
   generalize y11.drew = y12 at *
   refine tj 0 _ ?_
   try simp only [Act.put, ka, kb, kc]
   refine tj 1 _ ?_
   try simp only [Act.put, ka, kb, kc]
   refine tj 2 _ ?_
   try simp only [Act.put, ka, kb, kc]
   refine tj 3 _ ?_
   try simp only [Act.put, ka, kb, kc]
   refine tj 4 _ ?_
   try simp only [Act.put, ka, kb, kc]
   refine tj 5 _ ?_
   try simp only [Act.put, ka, kb, kc]
   refine tj 6 _ ?_
   try simp only [Act.put, ka, kb, kc]
   refine tj 7 _ ?_
   try simp only [Act.put, ka, kb, kc]
   refine tj 8 _ ?_
   try simp only [Act.put, ka, kb, kc]
   refine tj 9 ((lgV d.lg (.slice A2 n2 p2))) ?_ (hy := fun wq hSw => run_ldAt rfl rfl hSw.1 (aggL _) (sizeL _))
   try simp only [Act.put, ka, kb, kc]
   refine rr [10] ?_
   refine rc (fun KQ hKQ => ?_) AllReadyH.nil
   go_simp
   have CC := enti.last_any d.lg A2 n2 p2 y12 hlenD.out hGd.out.1
   rw [hld.out] at CC
   refine (CC).mono ?_
   rintro e y13 ⟨rfl, hY⟩
   replace HB := bt HB hY
   replace kC := kC.b hY
   replace kM := kM.b hY
   replace kO := kO.b hY
   replace R0 := R0.on hY hY.size
   replace R2 := R2.on hY hY.size
   clear hY
   clear CC
   go_wp2_with fail
   refine hKQ.out _ _ (⟨at_cL kC, by rw [← hr.out]; exact kC.cell 1, by rw [← hdn.out]; exact cr_nx kC hj9.out⟩) (fun _ => ?_)
   clear hKQ KQ
   try simp only [Act.put, ka, kb, kc]
   refine tj 11 ((.bool true)) ?_ (hy := fun wq hSw => rb_gtr rfl rfl rfl (decide_eq_true (by have := hgt2.out; omega)))
   try simp only [Act.put, ka, kb, kc]
   refine tj 12 _ ?_
   try simp only [Act.put, ka, kb, kc]
   refine wpAnyH_done (by kernel_rfl) ?_ _
   have hO := OutL.nil y13 y13.heap.size
   have hB7 := Lib.hid (HB.size)
   have RB := R2
   have RBz := Lib.hid (Nat.le_refl y13.heap.size)
   have LBhOkC := Lib.hid kC.lt
   have LBhOkM := Lib.hid kM.lt
   have LBhOkO := Lib.hid kO.lt
   have NIRBkO := NIR2kO
   obtain ⟨B9, hB9⟩ : ∃ q, y13.heap.size = q := ⟨_, rfl⟩
   rw [hB9] at hO hB7 RB RBz LBhOkC LBhOkM LBhOkO
   replace RBz := Lib.hid (show B9 ≤ y13.heap.size by rw [hB9]; exact Nat.le_refl _)
   clear hB9
   go_wp2_with (first | go_skip | refine st_C rfl _ _ rfl d A2 n2 p2 rfl rfl _ kO rfl ?_ | (first | refine lo_Cj kC ?_ | refine lo_cLj kC ?_ | refine lo_cJj kC ?_ | refine lo_Mj kM ?_ | refine lo_mJj kM ?_ | refine lo_Cj kO ?_ | refine lo_cLj kO ?_ | refine lo_cJj kO ?_))
   intro y14 kO2 pO
   replace kC := kC.put pO (Nat.ne_of_lt LTkCkO.out)
   replace kM := kM.put pO (Nat.ne_of_lt LTkMkO.out)
   replace R0 := R0.putS pO NIR0kO.out
   replace R2 := R2.putS pO NIR2kO.out
   replace hO := hO.put pO LBhOkO.out
   replace RB := RB.putN pO NIRBkO.out
   replace RBz := Lib.hid (Nat.le_trans RBz.out (Nat.le_of_eq pO.size.symm))
   replace HB := pO.below _ _ HB LEkO.out
   clear kO
   have kO := kO2
   clear kO2 pO
   go_wp2_with (first | go_skip | refine lo_Cj kC ?_ | refine lo_cLj kC ?_ | refine lo_cJj kC ?_ | refine lo_Mj kM ?_ | refine lo_mJj kM ?_ | refine lo_Cj kO ?_ | refine lo_cLj kO ?_ | refine lo_cJj kO ?_)
   (try simp only [Exit.inBlock, Exit.then])
   refine bodyPost_ret (res2 Tryz.results81 rfl rfl (aggC _) (sizeC _) (ldCv kO)) rfl ?_
   rw [hE2.out]
   first | exact ⟨A2, n2, p2, _, B9, rfl, RB, hp2, ON22.out, hO, hB7.out, RBz.out, HB⟩ | exact ⟨A2, n2, p2, _, rfl, B9, RB, hp2, ON22.out, hO, hB7.out, RBz.out, HB⟩
 have hgt2 := Lib.hid hgt
 have hE2 := hE.out
 rw [if_pos ⟨hr2.out, by omega⟩] at hE2
 replace hE2 := Lib.hid hE2
 clear hgt hE
 refine wp_region_held_drew (S := fun wq => At wq w.heap.size 8 (lgC d.lg (.slice A2 n2 p2)) ∧ wq.cell? ⟨w.heap.size, 1, none⟩ = some (.int .i64 r2) ∧ wq.cell? ⟨w.heap.size, 25 + j, none⟩ = some (.int .i64 (v + 1))) (by kernel_rfl) ?s_tkk11c (fun hHeld => ?_)
 case s_tkk11c => exact ⟨at_cL kC, by rw [← hr.out]; exact kC.cell 1, by rw [← hdn.out]; exact cr_nx kC hj9.out⟩
 have hD := (Below.refl y11.heap.size y11).drew
 replace HB := bt HB hD
 replace kC := kC.b hD
 replace kM := kM.b hD
 replace kO := kO.b hD
 replace R0 := R0.on hD hD.size
 replace R2 := R2.on hD hD.size
 clear hD
 generalize y11.drew = y12 at *
 refine tj 0 _ ?_
 try simp only [Act.put, ka, kb, kc]
 refine tj 1 _ ?_
 try simp only [Act.put, ka, kb, kc]
 refine tj 2 _ ?_
 try simp only [Act.put, ka, kb, kc]
 refine tj 3 _ ?_
 try simp only [Act.put, ka, kb, kc]
 refine tj 4 _ ?_
 try simp only [Act.put, ka, kb, kc]
 refine tj 5 _ ?_
 try simp only [Act.put, ka, kb, kc]
 refine tj 6 _ ?_
 try simp only [Act.put, ka, kb, kc]
 refine tj 7 _ ?_
 try simp only [Act.put, ka, kb, kc]
 refine tj 8 _ ?_
 try simp only [Act.put, ka, kb, kc]
 refine tj 9 ((lgV d.lg (.slice A2 n2 p2))) ?_ (hy := fun wq hSw => run_ldAt rfl rfl hSw.1 (aggL _) (sizeL _))
 try simp only [Act.put, ka, kb, kc]
 refine rr [10] ?_
 refine rc (fun KQ hKQ => ?_) AllReadyH.nil
 go_simp
 have CC := enti.last_any d.lg A2 n2 p2 y12 hlenD.out hGd.out.1
 rw [hld.out] at CC
 refine (CC).mono ?_
 rintro e y13 ⟨rfl, hY⟩
 replace HB := bt HB hY
 replace kC := kC.b hY
 replace kM := kM.b hY
 replace kO := kO.b hY
 replace R0 := R0.on hY hY.size
 replace R2 := R2.on hY hY.size
 clear hY
 clear CC
 go_wp2_with fail
 refine hKQ.out _ _ (⟨at_cL kC, by rw [← hr.out]; exact kC.cell 1, by rw [← hdn.out]; exact cr_nx kC hj9.out⟩) (fun _ => ?_)
 clear hKQ KQ
 try simp only [Act.put, ka, kb, kc]
 refine tj 11 ((.bool false)) ?_ (hy := fun wq hSw => rb_gtr rfl rfl rfl (decide_eq_false (by have := hgt2.out; omega)))
 try simp only [Act.put, ka, kb, kc]
 refine tj 12 _ ?_
 try simp only [Act.put, ka, kb, kc]
 refine wpAnyH_done (by kernel_rfl) ?_ _
 go_upto_region 13 with (first | go_skip | refine lo_Cj kC ?_ | refine lo_cLj kC ?_ | refine lo_cJj kC ?_ | refine lo_Mj kM ?_ | refine lo_mJj kM ?_ | refine lo_Cj kO ?_ | refine lo_cLj kO ?_ | refine lo_cJj kO ?_)
 refine wp_region_held_drew (S := fun wq => Blk 33 wq w.heap.size (crC d (.slice A2 n2 p2))) (by kernel_rfl) ?s_tkk13 (fun hHeld => ?_)
 case s_tkk13 => exact kC
 have hD := (Below.refl y13.heap.size y13).drew
 replace HB := bt HB hD
 replace kC := kC.b hD
 replace kM := kM.b hD
 replace kO := kO.b hD
 replace R0 := R0.on hD hD.size
 replace R2 := R2.on hD hD.size
 clear hD
 generalize y13.drew = yq at *
 refine tj 0 _ ?_ (hy := fun wq hSw => rld_C rfl rfl (id hSw))
 try simp only [Act.put, ka, kb, kc]
 refine tj 1 _ ?_ (hy := fun wq hSw => rld_C rfl rfl (id hSw))
 try simp only [Act.put, ka, kb, kc]
 refine tj 2 _ ?_
 try simp only [Act.put, ka, kb, kc]
 refine rr [3] ?_
 refine rc (fun KQ hKQ => ?_) AllReadyH.nil
 go_simp
 have LBhOkC := Lib.hid kC.lt
 have LBhOkM := Lib.hid kM.lt
 have LBhOkO := Lib.hid kO.lt
 have NIRBkO := NIR2kO
 have RB := R2
 have hB7 := Lib.hid HB.size
 have RBz := Lib.hid (Nat.le_refl yq.heap.size)
 have CC := send_any d A2 n2 p2 j yq yq.heap.size R2 (Nat.le_refl _) hp2 hGd.out.1 hj9.out (by rw [hdn.out]; have := hvb.out; have := hla1.out; omega)
 obtain ⟨B9, hB9⟩ : ∃ q, yq.heap.size = q := ⟨_, rfl⟩
 rw [hB9] at CC RB hB7 RBz LBhOkC LBhOkM LBhOkO
 replace RBz := Lib.hid (show B9 ≤ yq.heap.size by rw [hB9]; exact Nat.le_refl _)
 have hB9z := Lib.hid hB9
 clear hB9
 refine CC.mono ?_
 rintro e yq2 ⟨A7, n7, p7, rfl, hE7, hY⟩
 rw [← hB9z.out] at hY
 clear CC hB9z
 replace hE7 := Lib.hid hE7
 replace RB := RB.below (hY.mono RBz.out)
 replace RBz := Lib.hid (Nat.le_trans RBz.out hY.size)
 replace HB := bt HB hY
 replace kC := kC.b hY
 replace kM := kM.b hY
 replace kO := kO.b hY
 replace R0 := R0.on hY hY.size
 replace R2 := R2.on hY hY.size
 clear hY
 obtain ⟨yq, hyq⟩ : ∃ z, z = yq2 := ⟨_, rfl⟩
 subst hyq
 go_wp2_with fail
 refine hKQ.out _ _ (kC) (fun _ => ?_)
 clear hKQ KQ
 try simp only [Act.put, ka, kb, kc]
 refine rr [4, 5] ?_
 refine rc (fun KQ hKQ => ?_) (rc (fun KQ hKQ => ?_) (AllReadyH.nil))
 · refine step_bsR rfl _ 38 rfl _ rfl _ (run_bsM2 (sendF d (j : Int)) (.slice A7 n7 p7) yq) ?_
   rintro v yq2 ⟨rfl, kB, hX⟩
   have hO := OutL.one (B := B9) kB (hE7.out.below hX) RBz.out
   replace RB := RB.below (hX.mono RBz.out)
   replace RBz := Lib.hid (Nat.le_trans RBz.out hX.size)
   clear kB
   replace HB := bt HB hX
   replace kC := kC.b hX
   replace kM := kM.b hX
   replace kO := kO.b hX
   replace R0 := R0.on hX hX.size
   replace R2 := R2.on hX hX.size
   clear hX
   obtain ⟨yq, hyq⟩ : ∃ z, z = yq2 := ⟨_, rfl⟩
   subst hyq
   refine hKQ.out _ _ (kC) (fun _ => ?_)
   clear hKQ KQ
   try simp only [Act.put, ka, kb, kc]
   refine rr [5] ?_
   refine rc (fun KQ hKQ => ?_) AllReadyH.nil
   refine step_stAt rfl 33 _ _ rfl (cells := (crC d (.slice A2 n2 p2)).toArray) (crC d (.slice A2 n2 p2)) rfl rfl kO sizeCv (by show 0 + 45 ≤ 45; omega) (cr_one _) rfl ?_
   intro yq2 kO2 pO
   try replace hO := hO.put pO LBhOkO.out
   try replace RB := RB.putN pO NIRBkO.out
   try replace RBz := Lib.hid (Nat.le_trans RBz.out (Nat.le_of_eq pO.size.symm))
   try replace hE7 := Lib.hid (hE7.out.put pO LBhOkO.out)
   replace kC := kC.put pO (Nat.ne_of_lt LTkCkO.out)
   replace kM := kM.put pO (Nat.ne_of_lt LTkMkO.out)
   replace R0 := R0.putS pO NIR0kO.out
   replace R2 := R2.putS pO NIR2kO.out
   replace HB := pO.below _ _ HB LEkO.out
   clear kO
   have kO := kO2
   clear kO2 pO
   obtain ⟨yq, hyq⟩ : ∃ z, z = yq2 := ⟨_, rfl⟩
   subst hyq
   refine hKQ.out _ _ (kC) (fun _ => ?_)
   clear hKQ KQ
   try simp only [Act.put]
   refine tj 6 _ ?_
   try simp only [Act.put, ka, kb, kc]
   refine wpAnyH_done (by kernel_rfl) ?_ _
   simp only [Exit.then]
   refine (‹∀ (a : Act) (w : World), Code.wp _ Code.ret _ a w → _›) _ _ (wp_ret ?_)
   (try simp only [Exit.inBlock]); (try simp only [Exit.then])
   show bodyPost _ _ _ Exit.ret _ _
   refine bodyPost_ret (res2 Tryz.results81 rfl rfl (aggC _) (sizeC _) (ldCv kO)) rfl ?_
   rw [hE2.out]
   first | exact ⟨A2, n2, p2, _, B9, rfl, RB, hp2, ON22.out, hO, hB7.out, RBz.out, HB⟩ | exact ⟨A2, n2, p2, _, rfl, B9, RB, hp2, ON22.out, hO, hB7.out, RBz.out, HB⟩
 · refine step_stAt rfl 33 _ _ rfl (cells := (crC d (.slice A2 n2 p2)).toArray) (crC d (.slice A2 n2 p2)) rfl rfl kO sizeCv (by show 0 + 45 ≤ 45; omega) (cr_one _) rfl ?_
   intro yq2 kO2 pO
   try replace hO := hO.put pO LBhOkO.out
   try replace RB := RB.putN pO NIRBkO.out
   try replace RBz := Lib.hid (Nat.le_trans RBz.out (Nat.le_of_eq pO.size.symm))
   try replace hE7 := Lib.hid (hE7.out.put pO LBhOkO.out)
   replace kC := kC.put pO (Nat.ne_of_lt LTkCkO.out)
   replace kM := kM.put pO (Nat.ne_of_lt LTkMkO.out)
   replace R0 := R0.putS pO NIR0kO.out
   replace R2 := R2.putS pO NIR2kO.out
   replace HB := pO.below _ _ HB LEkO.out
   clear kO
   have kO := kO2
   clear kO2 pO
   obtain ⟨yq, hyq⟩ : ∃ z, z = yq2 := ⟨_, rfl⟩
   subst hyq
   refine hKQ.out _ _ (kC) (fun _ => ?_)
   clear hKQ KQ
   try simp only [Act.put]
   refine rr [4] ?_
   refine rc (fun KQ hKQ => ?_) AllReadyH.nil
   refine step_bsR rfl _ 38 rfl _ rfl _ (run_bsM2 (sendF d (j : Int)) (.slice A7 n7 p7) yq) ?_
   rintro v yq2 ⟨rfl, kB, hX⟩
   have hO := OutL.one (B := B9) kB (hE7.out.below hX) RBz.out
   replace RB := RB.below (hX.mono RBz.out)
   replace RBz := Lib.hid (Nat.le_trans RBz.out hX.size)
   clear kB
   replace HB := bt HB hX
   replace kC := kC.b hX
   replace kM := kM.b hX
   replace kO := kO.b hX
   replace R0 := R0.on hX hX.size
   replace R2 := R2.on hX hX.size
   clear hX
   obtain ⟨yq, hyq⟩ : ∃ z, z = yq2 := ⟨_, rfl⟩
   subst hyq
   refine hKQ.out _ _ (kC) (fun _ => ?_)
   clear hKQ KQ
   try simp only [Act.put, ka, kb, kc]
   refine tj 6 _ ?_
   try simp only [Act.put, ka, kb, kc]
   refine wpAnyH_done (by kernel_rfl) ?_ _
   simp only [Exit.then]
   refine (‹∀ (a : Act) (w : World), Code.wp _ Code.ret _ a w → _›) _ _ (wp_ret ?_)
   (try simp only [Exit.inBlock]); (try simp only [Exit.then])
   show bodyPost _ _ _ Exit.ret _ _
   refine bodyPost_ret (res2 Tryz.results81 rfl rfl (aggC _) (sizeC _) (ldCv kO)) rfl ?_
   rw [hE2.out]
   first | exact ⟨A2, n2, p2, _, B9, rfl, RB, hp2, ON22.out, hO, hB7.out, RBz.out, HB⟩ | exact ⟨A2, n2, p2, _, rfl, B9, RB, hp2, ON22.out, hO, hB7.out, RBz.out, HB⟩
end Go.Proofs.YtegnfkbmlalkeaaGreat.cor
