/- The landed core: Step of a vote of the own term, and of messages of a term gone by. Conditions: those that the theorems name. -/
import Derived.Deep.RegionHeld3
import Derived.Deep.Cut
import Derived.Lib.Hide
import Derived.Test.YtegnfkbmlalkeaaGreatSpKitCl
import Derived.Test.YtegnfkbmlalkeaaGreatSpJ6
import Derived.Test.YtegnfkbmlalkeaaGreatSpCorP13
import Derived.Test.YtegnfkbmlalkeaaGreatSpKitLg
import Derived.Test.YtegnfkbmlalkeaaGreatSpJ0
set_option linter.unusedVariables false
set_option maxHeartbeats 16000000
set_option maxRecDepth 10000
namespace Go.Proofs.YtegnfkbmlalkeaaGreat.cor
open Go Go.RowKit kit nums cf lg cr se
theorem stepVote_any (c : CoL) (A : Option Addr) (n p : Nat) (m : MsL) (Am : Option Addr) (nm pm : Nat) (w : World) (B : Nat) (hR : RdE w B A n c.lg.es) (hB : B ≤ w.heap.size) (hp : n ≤ p) (Bm : Nat) (hm : RdE w Bm Am nm m.es) (hBm : Bm ≤ w.heap.size) (hpm : nm ≤ pm) (hk : GoodK c) (hok : ∀ x ∈ m.es, x.j.ok) (hj : m.j.ok) (hl : c.lg.es.length ≤ 16000) (hml : m.es.length ≤ 100000) (hd : deafB c m = false) (heq : m.m = c.tm) (hk2 : m.k = 2) : Calls Tryz.prog 27 #[crV c (.slice A n p), msV m (.slice Am nm pm)] w fun e w' => ∃ A' n' p' v B', e = .returned (.tuple #[crV (stepF c m).1 (.slice A' n' p'), v]) ∧ RdE w' B' A' n' (stepF c m).1.lg.es ∧ n' ≤ p' ∧ OldNew w.heap.size A n A' n' ∧ OutL w' B' v (stepF c m).2 ∧ w.heap.size ≤ B' ∧ B' ≤ w'.heap.size ∧ Below w.heap.size w w' := by
 have HK := Lh hk
 have HOk := Lh hok
 have HJ := Lh hj
 have Rm := hm.more hBm
 have hmlen := Lh hm.len
 have hl2 := Lh hl
 have hml2 := Lh hml
 have hn6 : n ≤ 1000000 := by rw [← hR.len]; omega
 replace hn6 := Lh hn6
 clear hk hok hj hm hBm hl hml
 have hD := Lh hd
 have hE := Lh (step_eq hd heq)
 have hdn := deaf_not hd
 have hfr := Lh hdn.1
 have hkk := hk2
 obtain ⟨mm, hmm⟩ : ∃ q, m.m = q := ⟨_, rfl⟩
 rw [hmm] at heq
 have HD := HK
 have hdl : Hid (c.lg.es.length = c.lg.es.length) := rfl
 replace hmm := Lh hmm
 replace heq := Lh heq
 clear hd hdn hk2
 replace hkk := Lh hkk
 have R0 := hR.more hB
 clear hR hB
 go_enter Tryz.func27, Tryz.ntmps27
 have NIR0kC := Lh (NotIn.of_rd R0 (Nat.le_refl _))
 have NIRmkC := Lh (NotIn.of_rd Rm (Nat.le_refl _))
 have LEkC : Hid (w.heap.size ≤ w.heap.size) := Nat.le_refl _
 go_wp2_with (first | go_skip | refine box_C rfl _ rfl c (.slice A n p) rfl ?_ | fail)
 intro y1 kC e1 s1
 clear s1
 have HB := e1
 replace R0 := R0.on e1 e1.size
 replace Rm := Rm.on e1 e1.size
 clear e1
 have LTkCkM := Lh kC.lt
 have NIR0kM := Lh (NotIn.of_rd R0 (Nat.le_refl _))
 have NIRmkM := Lh (NotIn.of_rd Rm (Nat.le_refl _))
 have LEkM : Hid (w.heap.size ≤ y1.heap.size) := HB.size
 go_wp2_with (first | go_skip | refine box_M rfl _ rfl m (.slice Am nm pm) rfl ?_ | (first | refine lo_Cj kC ?_ | refine lo_cLj kC ?_ | refine lo_cJj kC ?_))
 intro y2 kM e2 s2
 clear s2
 replace HB := bt HB e2
 replace kC := kC.b e2
 replace R0 := R0.on e2 e2.size
 replace Rm := Rm.on e2 e2.size
 clear e2
 generalize y1.heap.size = gkM at *
 have LTkCkO := Lh kC.lt
 have LTkMkO := Lh kM.lt
 have NIR0kO := Lh (NotIn.of_rd R0 (Nat.le_refl _))
 have NIRmkO := Lh (NotIn.of_rd Rm (Nat.le_refl _))
 have LEkO : Hid (w.heap.size ≤ y2.heap.size) := HB.size
 go_wp2_with (first | go_skip | refine al_C rfl rfl ?_ | (first | refine lo_Cj kC ?_ | refine lo_cLj kC ?_ | refine lo_cJj kC ?_ | refine lo_Mj kM ?_ | refine lo_mJj kM ?_))
 intro y3 kO e3 s3
 clear s3
 replace kO : Blk _ _ _ (crC zC (.slice none 0 0)) := kO
 replace HB := bt HB e3
 replace kC := kC.b e3
 replace kM := kM.b e3
 replace R0 := R0.on e3 e3.size
 replace Rm := Rm.on e3 e3.size
 clear e3
 generalize y2.heap.size = gkO at *
 go_wp2_with (first | go_skip | refine lo_Cj kC ?_ | refine lo_cLj kC ?_ | refine lo_cJj kC ?_ | refine lo_Mj kM ?_ | refine lo_mJj kM ?_ | refine lo_Cj kO ?_ | refine lo_cLj kO ?_ | refine lo_cJj kO ?_)
 refine (own2_any c A n p y3 y3.heap.size R0 (Nat.le_refl _) hp hn6.out).mono ?_
 rintro e y4 ⟨A1, n1, p1, rfl, R1, hp1, ON1, hY⟩
 have NIR1kC := Lh (NIR0kC.out.next ON1 kC.lt)
 have NIR1kM := Lh (NIR0kM.out.next ON1 kM.lt)
 have NIR1kO := Lh (NIR0kO.out.next ON1 kO.lt)
 have ON12 := Lh ((OldNew.refl w.heap.size A n).trans ON1 HB.size)
 clear ON1
 replace HB := bt HB hY
 replace kC := kC.b hY
 replace kM := kM.b hY
 replace kO := kO.b hY
 replace R0 := R0.on hY hY.size
 replace Rm := Rm.on hY hY.size
 clear hY
 go_wp2_with (first | go_skip | refine st_C rfl _ _ rfl c A1 n1 p1 rfl rfl _ kC rfl ?_ | (first | refine lo_Cj kC ?_ | refine lo_cLj kC ?_ | refine lo_cJj kC ?_ | refine lo_Mj kM ?_ | refine lo_mJj kM ?_ | refine lo_Cj kO ?_ | refine lo_cLj kO ?_ | refine lo_cJj kO ?_))
 intro y5 kC2 pO
 replace kM := kM.put pO (Nat.ne_of_gt LTkCkM.out)
 replace kO := kO.put pO (Nat.ne_of_gt LTkCkO.out)
 replace R0 := R0.putS pO NIR0kC.out
 replace Rm := Rm.putS pO NIRmkC.out
 replace R1 := R1.putS pO NIR1kC.out
 replace HB := pO.below _ _ HB LEkC.out
 clear kC
 have kC := kC2
 clear kC2 pO
 go_wp2_with (first | go_skip | refine lo_Cj kC ?_ | refine lo_cLj kC ?_ | refine lo_cJj kC ?_ | refine lo_Mj kM ?_ | refine lo_mJj kM ?_ | refine lo_Cj kO ?_ | refine lo_cLj kO ?_ | refine lo_cJj kO ?_)
 have CC := ignores_any c A1 n1 p1 m Am nm pm y5
 rw [hD.out] at CC
 refine (CC).mono ?_
 rintro e y6 ⟨rfl, hY⟩
 replace HB := bt HB hY
 replace kC := kC.b hY
 replace kM := kM.b hY
 replace kO := kO.b hY
 replace R0 := R0.on hY hY.size
 replace Rm := Rm.on hY hY.size
 replace R1 := R1.on hY hY.size
 clear hY
 clear CC
 have c_mm : y6.cell? ⟨gkM, 3, none⟩ = some (.int .i64 mm) := by rw [← hmm.out]; exact kM.cell 3
 have c_tm : y6.cell? ⟨w.heap.size, 2, none⟩ = some (.int .i64 mm) := by rw [heq.out]; exact kC.cell 2
 have h1 : ¬ mm > mm := by omega
 have h2 : ¬ mm < mm := by omega
 have hkk := hkk.out
 obtain ⟨mi, hmi⟩ : ∃ q, m.i = q := ⟨_, rfl⟩
 obtain ⟨mc, hmc⟩ : ∃ q, m.c = q := ⟨_, rfl⟩
 obtain ⟨ms, hms⟩ : ∃ q, m.s = q := ⟨_, rfl⟩
 obtain ⟨mi2, hmi2⟩ : ∃ q, bouF mi = q := ⟨_, rfl⟩
 obtain ⟨mc2, hmc2⟩ : ∃ q, bouF mc = q := ⟨_, rfl⟩
 obtain ⟨ms2, hms2⟩ : ∃ q, bouF ms = q := ⟨_, rfl⟩
 obtain ⟨M, hM⟩ : ∃ q, bouM m = q := ⟨_, rfl⟩
 have hMe : Hid ({ m with i := mi2, c := mc2, s := ms2 } = M) := by show _ = _; rw [← hM, ← hmi2, ← hmc2, ← hms2, ← hmi, ← hmc, ← hms]; rfl
 have hMp : Hid (M.k = m.k ∧ M.f = m.f ∧ M.es = m.es ∧ M.j = m.j ∧ (0 ≤ M.i ∧ M.i ≤ 1099511627776)) := by show _ ∧ _; rw [← hM]; exact ⟨rfl, rfl, rfl, rfl, bou_in _⟩
 rw [hM] at hE
 replace hmi := Lh hmi
 replace hmc := Lh hmc
 replace hms := Lh hms
 replace hmi2 := Lh hmi2
 replace hmc2 := Lh hmc2
 replace hms2 := Lh hms2
 replace hM := Lh hM
 go_upto_region 8 with (first | go_skip | refine lo_Cj kC ?_ | refine lo_cLj kC ?_ | refine lo_cJj kC ?_ | refine lo_Mj kM ?_ | refine lo_mJj kM ?_ | refine lo_Cj kO ?_ | refine lo_cLj kO ?_ | refine lo_cJj kO ?_)
 try clear c_mm c_tm h1 h2
 refine tail.region (S := fun wq => wq.cell? ⟨gkM, 4, none⟩ = some (.int .i64 mi) ∧ wq.cell? ⟨gkM, 6, none⟩ = some (.int .i64 mc) ∧ wq.cell? ⟨gkM, 7, none⟩ = some (.int .i64 ms)) [10, 11, 12, 13, 14] (by kernel_rfl) (⟨by rw [← hmi.out]; exact kM.drew.cell 4, by rw [← hmc.out]; exact kM.drew.cell 6, by rw [← hms.out]; exact kM.drew.cell 7⟩) (fun hHeld => ?_)
 have hD0 := (Below.refl y6.heap.size y6).drew
 replace HB := bt HB hD0
 replace kC := kC.b hD0
 replace kM := kM.b hD0
 replace kO := kO.b hD0
 replace R0 := R0.on hD0 hD0.size
 replace Rm := Rm.on hD0 hD0.size
 replace R1 := R1.on hD0 hD0.size
 clear hD0
 generalize y6.drew = y7 at *
 have sS : y7.cell? ⟨gkM, 4, none⟩ = some (.int .i64 mi) ∧ y7.cell? ⟨gkM, 6, none⟩ = some (.int .i64 mc) ∧ y7.cell? ⟨gkM, 7, none⟩ = some (.int .i64 ms) := ⟨by rw [← hmi.out]; exact kM.cell 4, by rw [← hmc.out]; exact kM.cell 6, by rw [← hms.out]; exact kM.cell 7⟩
 refine tail.tt 0 (v := ?v_0_1) (?y_0_1) ?_
 case y_0_1 => (intro wq hSw; (try dsimp only at hSw); go_simp; first | done | with_reducible rfl)
 try simp only [Act.put, ka, kb, kc]
 refine tail.tt 1 (v := ?v_1_1) (?y_1_1) ?_
 case y_1_1 => (intro wq hSw; (try dsimp only at hSw); go_simp; first | done | with_reducible rfl)
 try simp only [Act.put, ka, kb, kc]
 refine tail.tt 3 (v := ?v_3_1) (?y_3_1) ?_
 case y_3_1 => (intro wq hSw; (try dsimp only at hSw); go_simp; first | done | with_reducible rfl)
 try simp only [Act.put, ka, kb, kc]
 refine tail.tt 4 (v := ?v_4_1) (?y_4_1) ?_
 case y_4_1 => (intro wq hSw; (try dsimp only at hSw); go_simp; first | done | with_reducible rfl)
 try simp only [Act.put, ka, kb, kc]
 refine tail.tt 6 (v := ?v_6_1) (?y_6_1) ?_
 case y_6_1 => (intro wq hSw; (try dsimp only at hSw); go_simp; first | done | with_reducible rfl)
 try simp only [Act.put, ka, kb, kc]
 refine tail.tt 7 (v := ?v_7_1) (?y_7_1) ?_
 case y_7_1 => (intro wq hSw; (try dsimp only at hSw); go_simp; first | done | with_reducible rfl)
 try simp only [Act.put, ka, kb, kc]
 refine tail.tn 2 (fun KQ hKQ => ?_)
 go_simp
 have CC := bounded_any mi y7
 rw [hmi2.out] at CC
 refine CC.mono ?_
 rintro e ye ⟨rfl, hW⟩
 subst hW
 clear CC
 go_wp2_with fail
 refine hKQ.out _ _ ?s_2 ?_
 case s_2 => exact .inr sS
 clear hKQ KQ
 try simp only [Act.put, ka, kb, kc]
 refine tail.tt 9 (v := ?v_9_1) (?y_9_1) ?_
 case y_9_1 => (intro wq hSw; (try dsimp only at hSw); go_simp; first | done | with_reducible rfl)
 try simp only [Act.put, ka, kb, kc]
 refine tail.tn 5 (fun KQ hKQ => ?_)
 go_simp
 have CC := bounded_any mc y7
 rw [hmc2.out] at CC
 refine CC.mono ?_
 rintro e ye ⟨rfl, hW⟩
 subst hW
 clear CC
 go_wp2_with fail
 refine hKQ.out _ _ ?s_5 ?_
 case s_5 => exact .inr sS
 clear hKQ KQ
 try simp only [Act.put, ka, kb, kc]
 refine tail.tn 8 (fun KQ hKQ => ?_)
 go_simp
 have CC := bounded_any ms y7
 rw [hms2.out] at CC
 refine CC.mono ?_
 rintro e ye ⟨rfl, hW⟩
 subst hW
 clear CC
 go_wp2_with fail
 refine hKQ.out _ _ ?s_8 ?_
 case s_8 => exact .inr sS
 clear hKQ KQ
 try simp only [Act.put, ka, kb, kc]
 refine tail.tn 10 (fun KQ hKQ => ?_)
 have df := fun i => kM.frozen i
 have cR := kM.cell 4
 go_simp
 clear df cR sS
 have kM2 : Blk 49 _ gkM (msC { m with i := mi2 } (.slice Am nm pm)) := kM.set_ 4 (.int .i64 mi2)
 have pO := put_set y7 gkM (4) (.int .i64 mi2)
 generalize (y7.setCell ⟨gkM, 4, none⟩ (.int .i64 mi2)) = y8 at *
 replace kC := kC.put pO (Nat.ne_of_lt LTkCkM.out)
 replace kO := kO.put pO (Nat.ne_of_gt LTkMkO.out)
 replace R0 := R0.putS pO NIR0kM.out
 replace Rm := Rm.putS pO NIRmkM.out
 replace R1 := R1.putS pO NIR1kM.out
 replace HB := pO.below _ _ HB LEkM.out
 clear kM
 have kM := kM2
 clear kM2 pO
 refine hKQ.out _ _ ?s_10 ?_
 case s_10 => exact .inl (by decide)
 clear hKQ KQ
 try simp only [Act.put]
 refine tail.tn 11 (fun KQ hKQ => ?_)
 go_simp
 refine hKQ.out _ _ ?s_11 ?_
 case s_11 => exact .inl (by decide)
 clear hKQ KQ
 try simp only [Act.put, ka, kb, kc]
 refine tail.tn 12 (fun KQ hKQ => ?_)
 have df := fun i => kM.frozen i
 have cR := kM.cell 6
 go_simp
 clear df cR
 have kM2 : Blk 49 _ gkM (msC { m with i := mi2, c := mc2 } (.slice Am nm pm)) := kM.set_ 6 (.int .i64 mc2)
 have pO := put_set y8 gkM (6) (.int .i64 mc2)
 generalize (y8.setCell ⟨gkM, 6, none⟩ (.int .i64 mc2)) = y9 at *
 replace kC := kC.put pO (Nat.ne_of_lt LTkCkM.out)
 replace kO := kO.put pO (Nat.ne_of_gt LTkMkO.out)
 replace R0 := R0.putS pO NIR0kM.out
 replace Rm := Rm.putS pO NIRmkM.out
 replace R1 := R1.putS pO NIR1kM.out
 replace HB := pO.below _ _ HB LEkM.out
 clear kM
 have kM := kM2
 clear kM2 pO
 refine hKQ.out _ _ ?s_12 ?_
 case s_12 => exact .inl (by decide)
 clear hKQ KQ
 try simp only [Act.put]
 refine tail.tn 13 (fun KQ hKQ => ?_)
 go_simp
 refine hKQ.out _ _ ?s_13 ?_
 case s_13 => exact .inl (by decide)
 clear hKQ KQ
 try simp only [Act.put, ka, kb, kc]
 refine tail.tn 14 (fun KQ hKQ => ?_)
 have df := fun i => kM.frozen i
 have cR := kM.cell 7
 go_simp
 clear df cR
 have kM2 : Blk 49 _ gkM (msC { m with i := mi2, c := mc2, s := ms2 } (.slice Am nm pm)) := kM.set_ 7 (.int .i64 ms2)
 have pO := put_set y9 gkM (7) (.int .i64 ms2)
 generalize (y9.setCell ⟨gkM, 7, none⟩ (.int .i64 ms2)) = y10 at *
 replace kC := kC.put pO (Nat.ne_of_lt LTkCkM.out)
 replace kO := kO.put pO (Nat.ne_of_gt LTkMkO.out)
 replace R0 := R0.putS pO NIR0kM.out
 replace Rm := Rm.putS pO NIRmkM.out
 replace R1 := R1.putS pO NIR1kM.out
 replace HB := pO.below _ _ HB LEkM.out
 clear kM
 have kM := kM2
 clear kM2 pO
 refine hKQ.out _ _ ?s_14 ?_
 case s_14 => exact .inl (by decide)
 clear hKQ KQ
 try simp only [Act.put]
 refine tail.done (by kernel_rfl) ?_ _
 rw [hMe.out] at kM
 rw [← hMp.out.2.2.1] at Rm hml2 hmlen HOk
 rw [← hMp.out.2.2.2.1] at HJ
 rw [← hMp.out.2.1] at hfr
 obtain ⟨mk, hmk⟩ : ∃ q, M.k = q := ⟨_, rfl⟩
 have hmk0 : m.k = mk := hMp.out.1.symm.trans hmk
 rw [hmk0] at hkk
 clear hmk0
 replace hmk := Lh hmk
 have ck : y10.cell? ⟨gkM, 0, none⟩ = some (.int .i64 mk) := by rw [← hmk.out]; exact kM.cell 0
 obtain rfl := hkk
 ·
  have hE2 : Hid (stepF c m = voteF c M) := by show _ = _; rw [hE.out, go2 hmk.out]
  clear hE
  go_wp2_with (first | go_skip | refine lo_Cj kC ?_ | refine lo_cLj kC ?_ | refine lo_cJj kC ?_ | refine lo_Mj kM ?_ | refine lo_mJj kM ?_ | refine lo_Cj kO ?_ | refine lo_cLj kO ?_ | refine lo_cJj kO ?_)
  clear ck
  refine (takeVote_any c A1 n1 p1 M Am nm pm y10 y10.heap.size R1 (Nat.le_refl _) hp1 HD.out.n HD.out.id1 HD.out.la HD.out.vs hfr.out).mono ?_
  rintro e y11 ⟨A9, n9, p9, v9, B9, rfl, RB, hp9, ON9, hO, hB9, hB8, hY⟩
  have NIRBkC := Lh (NIR1kC.out.next ON9 kC.lt)
  have LBhOkC := Lh (Nat.lt_of_lt_of_le kC.lt hB9)
  have NIRBkO := Lh (NIR1kO.out.next ON9 kO.lt)
  have LBhOkO := Lh (Nat.lt_of_lt_of_le kO.lt hB9)
  have ON92 := Lh (ON12.out.trans ON9 HB.size)
  clear ON9
  have hB7 := Lh (Nat.le_trans HB.size hB9)
  have RBz := Lh hB8
  clear hB8 hB9
  replace HB := bt HB hY
  replace kC := kC.b hY
  replace kM := kM.b hY
  replace kO := kO.b hY
  replace R0 := R0.on hY hY.size
  replace Rm := Rm.on hY hY.size
  replace R1 := R1.on hY hY.size
  clear hY
  go_wp2_with (first | go_skip | refine st_C rfl _ _ rfl (voteF c M).1 A9 n9 p9 rfl rfl _ kC rfl ?_ | (first | refine lo_Cj kC ?_ | refine lo_cLj kC ?_ | refine lo_cJj kC ?_ | refine lo_Mj kM ?_ | refine lo_mJj kM ?_ | refine lo_Cj kO ?_ | refine lo_cLj kO ?_ | refine lo_cJj kO ?_))
  intro y12 kC2 pO
  replace kM := kM.put pO (Nat.ne_of_gt LTkCkM.out)
  replace kO := kO.put pO (Nat.ne_of_gt LTkCkO.out)
  replace R0 := R0.putS pO NIR0kC.out
  replace Rm := Rm.putS pO NIRmkC.out
  replace R1 := R1.putS pO NIR1kC.out
  replace hO := hO.put pO LBhOkC.out
  replace RB := RB.putN pO NIRBkC.out
  replace RBz := Lh (Nat.le_trans RBz.out (Nat.le_of_eq pO.size.symm))
  replace HB := pO.below _ _ HB LEkC.out
  clear kC
  have kC := kC2
  clear kC2 pO
  go_wp2_with (first | go_skip | refine st_C rfl _ _ rfl (voteF c M).1 A9 n9 p9 rfl rfl _ kO rfl ?_ | (first | refine lo_Cj kC ?_ | refine lo_cLj kC ?_ | refine lo_cJj kC ?_ | refine lo_Mj kM ?_ | refine lo_mJj kM ?_ | refine lo_Cj kO ?_ | refine lo_cLj kO ?_ | refine lo_cJj kO ?_))
  intro y13 kO2 pO
  replace kC := kC.put pO (Nat.ne_of_lt LTkCkO.out)
  replace kM := kM.put pO (Nat.ne_of_lt LTkMkO.out)
  replace R0 := R0.putS pO NIR0kO.out
  replace Rm := Rm.putS pO NIRmkO.out
  replace R1 := R1.putS pO NIR1kO.out
  replace hO := hO.put pO LBhOkO.out
  replace RB := RB.putN pO NIRBkO.out
  replace RBz := Lh (Nat.le_trans RBz.out (Nat.le_of_eq pO.size.symm))
  replace HB := pO.below _ _ HB LEkO.out
  clear kO
  have kO := kO2
  clear kO2 pO
  go_wp2_with (first | go_skip | refine lo_Cj kC ?_ | refine lo_cLj kC ?_ | refine lo_cJj kC ?_ | refine lo_Mj kM ?_ | refine lo_mJj kM ?_ | refine lo_Cj kO ?_ | refine lo_cLj kO ?_ | refine lo_cJj kO ?_)
  (try simp only [Exit.inBlock, Exit.then])
  refine bodyPost_ret (res2 Tryz.results27 rfl rfl (aggC _) (sizeC _) (ldCv kO)) rfl ?_
  rw [hE2.out]
  first | exact ⟨A9, n9, p9, v9, B9, rfl, RB, hp9, ON92.out, hO, hB7.out, RBz.out, HB⟩ | exact ⟨A9, n9, p9, v9, rfl, B9, RB, hp9, ON92.out, hO, hB7.out, RBz.out, HB⟩
end Go.Proofs.YtegnfkbmlalkeaaGreat.cor
