/- The landed core: Step of messages of a later term. Conditions: those that the theorem names. -/
import Derived.Deep.RegionHeld3
import Derived.Deep.Cut
import Derived.Lib.Hide
import Derived.Test.YtegnfkbmlalkeaaGreatSvJ2
import Derived.Test.YtegnfkbmlalkeaaGreatSvCorV13
import Derived.Test.YtegnfkbmlalkeaaGreatSvCorU13
import Derived.Test.YtegnfkbmlalkeaaGreatSvCorT13
import Derived.Test.YtegnfkbmlalkeaaGreatSvCorQ13
import Derived.Test.YtegnfkbmlalkeaaGreatSvCorP13
import Derived.Test.YtegnfkbmlalkeaaGreatSvKitLg
import Derived.Test.YtegnfkbmlalkeaaGreatSvJ0
namespace Go.Proofs.YtegnfkbmlalkeaaGreat.cor
open Go Go.RowKit Go.Proofs.YtegnfkbmlalkeaaGreat.kit Go.Proofs.YtegnfkbmlalkeaaGreat.nums Go.Proofs.YtegnfkbmlalkeaaGreat.cf Go.Proofs.YtegnfkbmlalkeaaGreat.lg Go.Proofs.YtegnfkbmlalkeaaGreat.cr Go.Proofs.YtegnfkbmlalkeaaGreat.se
set_option linter.unusedVariables false
set_option maxHeartbeats 8000000 in
set_option maxRecDepth 10000 in
theorem stepUp_any (c : CoL) (A : Option Addr) (n p : Nat) (m : MsL) (Am : Option Addr) (nm pm : Nat) (w : World) (B : Nat) (hR : RdE w B A n c.lg.es) (hB : B ≤ w.heap.size) (hp : n ≤ p) (Bm : Nat) (hm : RdE w Bm Am nm m.es) (hBm : Bm ≤ w.heap.size) (hpm : nm ≤ pm) (hk : GoodK c) (hok : ∀ x ∈ m.es, x.j.ok) (hj : m.j.ok) (hl : c.lg.es.length ≤ 16000) (hml : m.es.length ≤ 100000) (hd : deafB c m = false) (hup : c.tm < m.m) : Calls Tryz.prog 27 #[crV c (.slice A n p), msV m (.slice Am nm pm)] w fun e w' => ∃ A' n' p' v B', e = .returned (.tuple #[crV (stepF c m).1 (.slice A' n' p'), v]) ∧ RdE w' B' A' n' (stepF c m).1.lg.es ∧ n' ≤ p' ∧ OldNew w.heap.size A n A' n' ∧ OutL w' B' v (stepF c m).2 ∧ w.heap.size ≤ B' ∧ B' ≤ w'.heap.size ∧ Below w.heap.size w w' := by
 have HK := Lib.hid hk
 have HOk := Lib.hid hok
 have HJ := Lib.hid hj
 have Rm := hm.more hBm
 have hmlen := Lib.hid hm.len
 have hl2 := Lib.hid hl
 have hml2 := Lib.hid hml
 have hn6 : n ≤ 1000000 := by rw [← hR.len]; omega
 replace hn6 := Lib.hid hn6
 clear hk hok hj hm hBm hl hml
 have hD := Lib.hid hd
 have hdn := deaf_not hd
 have hE := Lib.hid (step_up hd hup)
 have hfr := Lib.hid hdn.1
 have hkk := Lib.hid hdn.2.2
 obtain ⟨mm, hmm⟩ : ∃ q, m.m = q := ⟨_, rfl⟩
 obtain ⟨tm, htm⟩ : ∃ q, c.tm = q := ⟨_, rfl⟩
 rw [hmm, htm] at hup
 rw [hmm] at hE
 have HD := Lib.hid (good_ent (t := mm) HK.out (by rw [← hmm]; have := hdn.2.1; omega))
 obtain ⟨d, hd0⟩ : ∃ q, entC c mm = q := ⟨_, rfl⟩
 rw [hd0] at HD hE
 have hdp : Hid (d.lg = c.lg ∧ d.tm = mm) := by show _ ∧ _; rw [← hd0]; exact ⟨rfl, rfl⟩
 have hdl : Hid (d.lg.es.length = c.lg.es.length) := by show _ = _; rw [hdp.out.1]
 replace hmm := Lib.hid hmm
 replace htm := Lib.hid htm
 replace hd0 := Lib.hid hd0
 clear hd hdn
 have hup2 := Lib.hid hup
 clear hup
 have R0 := hR.more hB
 clear hR hB
 go_enter Tryz.func27, Tryz.ntmps27
 have NIR0kC := Lib.hid (NotIn.of_rd R0 (Nat.le_refl _))
 have NIRmkC := Lib.hid (NotIn.of_rd Rm (Nat.le_refl _))
 have LEkC : Hid (w.heap.size ≤ w.heap.size) := Nat.le_refl _
 go_wp2_with (first | go_skip | refine box_C rfl _ rfl c (.slice A n p) rfl ?_ | fail)
 intro y1 kC e1 s1
 clear s1
 have HB := e1
 replace R0 := R0.on e1 e1.size
 replace Rm := Rm.on e1 e1.size
 clear e1
 have LTkCkM := Lib.hid kC.lt
 have NIR0kM := Lib.hid (NotIn.of_rd R0 (Nat.le_refl _))
 have NIRmkM := Lib.hid (NotIn.of_rd Rm (Nat.le_refl _))
 have LEkM : Hid (w.heap.size ≤ y1.heap.size) := HB.size
 go_wp2_with (first | go_skip | refine box_M rfl _ rfl m (.slice Am nm pm) rfl ?_ | (first | refine lo_Cj kC ?_ | refine lo_cLj kC ?_ | refine lo_cJj kC ?_))
 intro y2 kM e2 s2
 clear s2
 replace HB := bt HB e2
 replace kC := kC.b e2
 replace R0 := R0.on e2 e2.size
 replace Rm := Rm.on e2 e2.size
 clear e2
 generalize y1.heap.size = gkM at *
 have LTkCkO := Lib.hid kC.lt
 have LTkMkO := Lib.hid kM.lt
 have NIR0kO := Lib.hid (NotIn.of_rd R0 (Nat.le_refl _))
 have NIRmkO := Lib.hid (NotIn.of_rd Rm (Nat.le_refl _))
 have LEkO : Hid (w.heap.size ≤ y2.heap.size) := HB.size
 go_wp2_with (first | go_skip | refine al_C rfl rfl ?_ | (first | refine lo_Cj kC ?_ | refine lo_cLj kC ?_ | refine lo_cJj kC ?_ | refine lo_Mj kM ?_ | refine lo_mJj kM ?_))
 intro y3 kO e3 s3
 clear s3
 replace kO : Blk _ _ _ (crC zC (.slice none 0 0)) := kO
 replace HB := bt HB e3
 replace kC := kC.b e3
 replace kM := kM.b e3
 replace R0 := R0.on e3 e3.size
 replace Rm := Rm.on e3 e3.size
 clear e3
 generalize y2.heap.size = gkO at *
 go_wp2_with (first | go_skip | refine lo_Cj kC ?_ | refine lo_cLj kC ?_ | refine lo_cJj kC ?_ | refine lo_Mj kM ?_ | refine lo_mJj kM ?_ | refine lo_Cj kO ?_ | refine lo_cLj kO ?_ | refine lo_cJj kO ?_)
 refine (own2_any c A n p y3 y3.heap.size R0 (Nat.le_refl _) hp hn6.out).mono ?_
 rintro e y4 ⟨A1, n1, p1, rfl, R1, hp1, ON1, hY⟩
 have NIR1kC := Lib.hid (NIR0kC.out.next ON1 kC.lt)
 have NIR1kM := Lib.hid (NIR0kM.out.next ON1 kM.lt)
 have NIR1kO := Lib.hid (NIR0kO.out.next ON1 kO.lt)
 have ON12 := Lib.hid ((OldNew.refl w.heap.size A n).trans ON1 HB.size)
 clear ON1
 replace HB := bt HB hY
 replace kC := kC.b hY
 replace kM := kM.b hY
 replace kO := kO.b hY
 replace R0 := R0.on hY hY.size
 replace Rm := Rm.on hY hY.size
 clear hY
 go_wp2_with (first | go_skip | refine st_C rfl _ _ rfl c A1 n1 p1 rfl rfl _ kC rfl ?_ | (first | refine lo_Cj kC ?_ | refine lo_cLj kC ?_ | refine lo_cJj kC ?_ | refine lo_Mj kM ?_ | refine lo_mJj kM ?_ | refine lo_Cj kO ?_ | refine lo_cLj kO ?_ | refine lo_cJj kO ?_))
 intro y5 kC2 pO
 replace kM := kM.put pO (Nat.ne_of_gt LTkCkM.out)
 replace kO := kO.put pO (Nat.ne_of_gt LTkCkO.out)
 replace R0 := R0.putS pO NIR0kC.out
 replace Rm := Rm.putS pO NIRmkC.out
 replace R1 := R1.putS pO NIR1kC.out
 replace HB := pO.below _ _ HB LEkC.out
 clear kC
 have kC := kC2
 clear kC2 pO
 go_wp2_with (first | go_skip | refine lo_Cj kC ?_ | refine lo_cLj kC ?_ | refine lo_cJj kC ?_ | refine lo_Mj kM ?_ | refine lo_mJj kM ?_ | refine lo_Cj kO ?_ | refine lo_cLj kO ?_ | refine lo_cJj kO ?_)
 have CC := ignores_any c A1 n1 p1 m Am nm pm y5
 rw [hD.out] at CC
 refine (CC).mono ?_
 rintro e y6 ⟨rfl, hY⟩
 replace HB := bt HB hY
 replace kC := kC.b hY
 replace kM := kM.b hY
 replace kO := kO.b hY
 replace R0 := R0.on hY hY.size
 replace Rm := Rm.on hY hY.size
 replace R1 := R1.on hY hY.size
 clear hY
 clear CC
 have c_mm : y6.cell? ⟨gkM, 3, none⟩ = some (.int .i64 mm) := by rw [← hmm.out]; exact kM.cell 3
 have c_tm : y6.cell? ⟨w.heap.size, 2, none⟩ = some (.int .i64 tm) := by rw [← htm.out]; exact kC.cell 2
 have h1 : mm > tm := hup2.out
 go_wp2_with (first | go_skip | refine lo_Cj kC ?_ | refine lo_cLj kC ?_ | refine lo_cJj kC ?_ | refine lo_Mj kM ?_ | refine lo_mJj kM ?_ | refine lo_Cj kO ?_ | refine lo_cLj kO ?_ | refine lo_cJj kO ?_)
 clear c_mm c_tm h1
 refine (enter_any c A1 n1 p1 mm y6).mono ?_
 rintro e y7 ⟨rfl, hY⟩
 replace HB := bt HB hY
 replace kC := kC.b hY
 replace kM := kM.b hY
 replace kO := kO.b hY
 replace R0 := R0.on hY hY.size
 replace Rm := Rm.on hY hY.size
 replace R1 := R1.on hY hY.size
 clear hY
 rw [hd0.out]
 go_wp2_with (first | go_skip | refine st_C rfl _ _ rfl d A1 n1 p1 rfl rfl _ kC rfl ?_ | (first | refine lo_Cj kC ?_ | refine lo_cLj kC ?_ | refine lo_cJj kC ?_ | refine lo_Mj kM ?_ | refine lo_mJj kM ?_ | refine lo_Cj kO ?_ | refine lo_cLj kO ?_ | refine lo_cJj kO ?_))
 intro y8 kC2 pO
 replace kM := kM.put pO (Nat.ne_of_gt LTkCkM.out)
 replace kO := kO.put pO (Nat.ne_of_gt LTkCkO.out)
 replace R0 := R0.putS pO NIR0kC.out
 replace Rm := Rm.putS pO NIRmkC.out
 replace R1 := R1.putS pO NIR1kC.out
 replace HB := pO.below _ _ HB LEkC.out
 clear kC
 have kC := kC2
 clear kC2 pO
 rw [← hdp.out.1] at R1
 have c_mm : y8.cell? ⟨gkM, 3, none⟩ = some (.int .i64 mm) := by rw [← hmm.out]; exact kM.cell 3
 have c_tm : y8.cell? ⟨w.heap.size, 2, none⟩ = some (.int .i64 mm) := by rw [← hdp.out.2]; exact kC.cell 2
 have h2 : ¬ mm < mm := by omega
 have h1 : True := trivial
 have hkk := hkk.out
 obtain ⟨mi, hmi⟩ : ∃ q, m.i = q := ⟨_, rfl⟩
 obtain ⟨mc, hmc⟩ : ∃ q, m.c = q := ⟨_, rfl⟩
 obtain ⟨ms, hms⟩ : ∃ q, m.s = q := ⟨_, rfl⟩
 obtain ⟨mi2, hmi2⟩ : ∃ q, bouF mi = q := ⟨_, rfl⟩
 obtain ⟨mc2, hmc2⟩ : ∃ q, bouF mc = q := ⟨_, rfl⟩
 obtain ⟨ms2, hms2⟩ : ∃ q, bouF ms = q := ⟨_, rfl⟩
 obtain ⟨M, hM⟩ : ∃ q, bouM m = q := ⟨_, rfl⟩
 have hMe : Hid ({ m with i := mi2, c := mc2, s := ms2 } = M) := by show _ = _; rw [← hM, ← hmi2, ← hmc2, ← hms2, ← hmi, ← hmc, ← hms]; rfl
 have hMp : Hid (M.k = m.k ∧ M.f = m.f ∧ M.es = m.es ∧ M.j = m.j ∧ (0 ≤ M.i ∧ M.i ≤ 1099511627776)) := by show _ ∧ _; rw [← hM]; exact ⟨rfl, rfl, rfl, rfl, bou_in _⟩
 rw [hM] at hE
 replace hmi := Lib.hid hmi
 replace hmc := Lib.hid hmc
 replace hms := Lib.hid hms
 replace hmi2 := Lib.hid hmi2
 replace hmc2 := Lib.hid hmc2
 replace hms2 := Lib.hid hms2
 replace hM := Lib.hid hM
 go_upto_region 8 with (first | go_skip | refine lo_Cj kC ?_ | refine lo_cLj kC ?_ | refine lo_cJj kC ?_ | refine lo_Mj kM ?_ | refine lo_mJj kM ?_ | refine lo_Cj kO ?_ | refine lo_cLj kO ?_ | refine lo_cJj kO ?_)
 try clear c_mm c_tm h1 h2
 refine tail.region (S := fun wq => wq.cell? ⟨gkM, 4, none⟩ = some (.int .i64 mi) ∧ wq.cell? ⟨gkM, 6, none⟩ = some (.int .i64 mc) ∧ wq.cell? ⟨gkM, 7, none⟩ = some (.int .i64 ms)) [10, 11, 12, 13, 14] (by kernel_rfl) (⟨by rw [← hmi.out]; exact kM.drew.cell 4, by rw [← hmc.out]; exact kM.drew.cell 6, by rw [← hms.out]; exact kM.drew.cell 7⟩) (fun hHeld => ?_)
 have hD0 := (Below.refl y8.heap.size y8).drew
 replace HB := bt HB hD0
 replace kC := kC.b hD0
 replace kM := kM.b hD0
 replace kO := kO.b hD0
 replace R0 := R0.on hD0 hD0.size
 replace Rm := Rm.on hD0 hD0.size
 replace R1 := R1.on hD0 hD0.size
 clear hD0
 generalize y8.drew = y9 at *
 have sS : y9.cell? ⟨gkM, 4, none⟩ = some (.int .i64 mi) ∧ y9.cell? ⟨gkM, 6, none⟩ = some (.int .i64 mc) ∧ y9.cell? ⟨gkM, 7, none⟩ = some (.int .i64 ms) := ⟨by rw [← hmi.out]; exact kM.cell 4, by rw [← hmc.out]; exact kM.cell 6, by rw [← hms.out]; exact kM.cell 7⟩
 refine tail.tt 0 (v := ?v_0_113) (?y_0_113) ?_
 case y_0_113 => (intro wq hSw; (try dsimp only at hSw); go_simp; first | done | with_reducible rfl)
 try simp only [Act.put, ka, kb, kc]
 refine tail.tt 1 (v := ?v_1_113) (?y_1_113) ?_
 case y_1_113 => (intro wq hSw; (try dsimp only at hSw); go_simp; first | done | with_reducible rfl)
 try simp only [Act.put, ka, kb, kc]
 refine tail.tt 3 (v := ?v_3_113) (?y_3_113) ?_
 case y_3_113 => (intro wq hSw; (try dsimp only at hSw); go_simp; first | done | with_reducible rfl)
 try simp only [Act.put, ka, kb, kc]
 refine tail.tt 4 (v := ?v_4_113) (?y_4_113) ?_
 case y_4_113 => (intro wq hSw; (try dsimp only at hSw); go_simp; first | done | with_reducible rfl)
 try simp only [Act.put, ka, kb, kc]
 refine tail.tt 6 (v := ?v_6_113) (?y_6_113) ?_
 case y_6_113 => (intro wq hSw; (try dsimp only at hSw); go_simp; first | done | with_reducible rfl)
 try simp only [Act.put, ka, kb, kc]
 refine tail.tt 7 (v := ?v_7_113) (?y_7_113) ?_
 case y_7_113 => (intro wq hSw; (try dsimp only at hSw); go_simp; first | done | with_reducible rfl)
 try simp only [Act.put, ka, kb, kc]
 refine tail.tn 2 (fun KQ hKQ => ?_)
 go_simp
 have CC := bounded_any mi y9
 rw [hmi2.out] at CC
 refine CC.mono ?_
 rintro e ye ⟨rfl, hW⟩
 subst hW
 clear CC
 go_wp2_with fail
 refine hKQ.out _ _ ?s_2 ?_
 case s_2 => exact .inr sS
 clear hKQ KQ
 try simp only [Act.put, ka, kb, kc]
 refine tail.tt 9 (v := ?v_9_113) (?y_9_113) ?_
 case y_9_113 => (intro wq hSw; (try dsimp only at hSw); go_simp; first | done | with_reducible rfl)
 try simp only [Act.put, ka, kb, kc]
 refine tail.tn 5 (fun KQ hKQ => ?_)
 go_simp
 have CC := bounded_any mc y9
 rw [hmc2.out] at CC
 refine CC.mono ?_
 rintro e ye ⟨rfl, hW⟩
 subst hW
 clear CC
 go_wp2_with fail
 refine hKQ.out _ _ ?s_5 ?_
 case s_5 => exact .inr sS
 clear hKQ KQ
 try simp only [Act.put, ka, kb, kc]
 refine tail.tn 8 (fun KQ hKQ => ?_)
 go_simp
 have CC := bounded_any ms y9
 rw [hms2.out] at CC
 refine CC.mono ?_
 rintro e ye ⟨rfl, hW⟩
 subst hW
 clear CC
 go_wp2_with fail
 refine hKQ.out _ _ ?s_8 ?_
 case s_8 => exact .inr sS
 clear hKQ KQ
 try simp only [Act.put, ka, kb, kc]
 refine tail.tn 10 (fun KQ hKQ => ?_)
 have df := fun i => kM.frozen i
 have cR := kM.cell 4
 go_simp
 clear df cR sS
 have kM2 : Blk 49 _ gkM (msC { m with i := mi2 } (.slice Am nm pm)) := kM.set_ 4 (.int .i64 mi2)
 have pO := put_set y9 gkM (4) (.int .i64 mi2)
 generalize (y9.setCell ⟨gkM, 4, none⟩ (.int .i64 mi2)) = y10 at *
 replace kC := kC.put pO (Nat.ne_of_lt LTkCkM.out)
 replace kO := kO.put pO (Nat.ne_of_gt LTkMkO.out)
 replace R0 := R0.putS pO NIR0kM.out
 replace Rm := Rm.putS pO NIRmkM.out
 replace R1 := R1.putS pO NIR1kM.out
 replace HB := pO.below _ _ HB LEkM.out
 clear kM
 have kM := kM2
 clear kM2 pO
 refine hKQ.out _ _ ?s_10 ?_
 case s_10 => exact .inl (by decide)
 clear hKQ KQ
 try simp only [Act.put]
 refine tail.tn 11 (fun KQ hKQ => ?_)
 go_simp
 refine hKQ.out _ _ ?s_11 ?_
 case s_11 => exact .inl (by decide)
 clear hKQ KQ
 try simp only [Act.put, ka, kb, kc]
 refine tail.tn 12 (fun KQ hKQ => ?_)
 have df := fun i => kM.frozen i
 have cR := kM.cell 6
 go_simp
 clear df cR
 have kM2 : Blk 49 _ gkM (msC { m with i := mi2, c := mc2 } (.slice Am nm pm)) := kM.set_ 6 (.int .i64 mc2)
 have pO := put_set y10 gkM (6) (.int .i64 mc2)
 generalize (y10.setCell ⟨gkM, 6, none⟩ (.int .i64 mc2)) = y11 at *
 replace kC := kC.put pO (Nat.ne_of_lt LTkCkM.out)
 replace kO := kO.put pO (Nat.ne_of_gt LTkMkO.out)
 replace R0 := R0.putS pO NIR0kM.out
 replace Rm := Rm.putS pO NIRmkM.out
 replace R1 := R1.putS pO NIR1kM.out
 replace HB := pO.below _ _ HB LEkM.out
 clear kM
 have kM := kM2
 clear kM2 pO
 refine hKQ.out _ _ ?s_12 ?_
 case s_12 => exact .inl (by decide)
 clear hKQ KQ
 try simp only [Act.put]
 refine tail.tn 13 (fun KQ hKQ => ?_)
 go_simp
 refine hKQ.out _ _ ?s_13 ?_
 case s_13 => exact .inl (by decide)
 clear hKQ KQ
 try simp only [Act.put, ka, kb, kc]
 refine tail.tn 14 (fun KQ hKQ => ?_)
 have df := fun i => kM.frozen i
 have cR := kM.cell 7
 go_simp
 clear df cR
 have kM2 : Blk 49 _ gkM (msC { m with i := mi2, c := mc2, s := ms2 } (.slice Am nm pm)) := kM.set_ 7 (.int .i64 ms2)
 have pO := put_set y11 gkM (7) (.int .i64 ms2)
 generalize (y11.setCell ⟨gkM, 7, none⟩ (.int .i64 ms2)) = y12 at *
 replace kC := kC.put pO (Nat.ne_of_lt LTkCkM.out)
 replace kO := kO.put pO (Nat.ne_of_gt LTkMkO.out)
 replace R0 := R0.putS pO NIR0kM.out
 replace Rm := Rm.putS pO NIRmkM.out
 replace R1 := R1.putS pO NIR1kM.out
 replace HB := pO.below _ _ HB LEkM.out
 clear kM
 have kM := kM2
 clear kM2 pO
 refine hKQ.out _ _ ?s_14 ?_
 case s_14 => exact .inl (by decide)
 clear hKQ KQ
 try simp only [Act.put]
 refine tail.done (by kernel_rfl) ?_ _
 rw [hMe.out] at kM
 rw [← hMp.out.2.2.1] at Rm hml2 hmlen HOk
 rw [← hMp.out.2.2.2.1] at HJ
 rw [← hMp.out.2.1] at hfr
 obtain ⟨mk, hmk⟩ : ∃ q, M.k = q := ⟨_, rfl⟩
 have hmk0 : m.k = mk := hMp.out.1.symm.trans hmk
 rw [hmk0] at hkk
 clear hmk0
 replace hmk := Lib.hid hmk
 have ck : y12.cell? ⟨gkM, 0, none⟩ = some (.int .i64 mk) := by rw [← hmk.out]; exact kM.cell 0
 rcases hkk with rfl | rfl | rfl | rfl | rfl | rfl
 · skip
   have hE2 : Hid (stepF c m = askF d M) := by show _ = _; rw [hE.out, go1 hmk.out]
   clear hE
   go_wp2_with (first | go_skip | refine lo_Cj kC ?_ | refine lo_cLj kC ?_ | refine lo_cJj kC ?_ | refine lo_Mj kM ?_ | refine lo_mJj kM ?_ | refine lo_Cj kO ?_ | refine lo_cLj kO ?_ | refine lo_cJj kO ?_)
   clear ck
   refine (takeAsk_any d A1 n1 p1 M Am nm pm y12 y12.heap.size R1 (Nat.le_refl _) hp1 HD.out.n.1 hMp.out.2.2.2.2 (by have h := hdl.out; have := hl2.out; omega)).mono ?_
   rintro e y13 ⟨A9, n9, p9, v9, B9, rfl, RB, hp9, ON9, hO, hB9, hB8, hY⟩
   have NIRBkC := Lib.hid (NIR1kC.out.next ON9 kC.lt)
   have LBhOkC := Lib.hid (Nat.lt_of_lt_of_le kC.lt hB9)
   have LBhOkM := Lib.hid (Nat.lt_of_lt_of_le kM.lt hB9)
   have NIRBkO := Lib.hid (NIR1kO.out.next ON9 kO.lt)
   have LBhOkO := Lib.hid (Nat.lt_of_lt_of_le kO.lt hB9)
   have ON92 := Lib.hid (ON12.out.trans ON9 HB.size)
   clear ON9
   have hB7 := Lib.hid (Nat.le_trans HB.size hB9)
   have RBz := Lib.hid hB8
   clear hB8 hB9
   replace HB := bt HB hY
   replace kC := kC.b hY
   replace kM := kM.b hY
   replace kO := kO.b hY
   replace R0 := R0.on hY hY.size
   replace Rm := Rm.on hY hY.size
   replace R1 := R1.on hY hY.size
   clear hY
   go_wp2_with (first | go_skip | refine st_C rfl _ _ rfl (askF d M).1 A9 n9 p9 rfl rfl _ kC rfl ?_ | (first | refine lo_Cj kC ?_ | refine lo_cLj kC ?_ | refine lo_cJj kC ?_ | refine lo_Mj kM ?_ | refine lo_mJj kM ?_ | refine lo_Cj kO ?_ | refine lo_cLj kO ?_ | refine lo_cJj kO ?_))
   intro y14 kC2 pO
   replace kM := kM.put pO (Nat.ne_of_gt LTkCkM.out)
   replace kO := kO.put pO (Nat.ne_of_gt LTkCkO.out)
   replace R0 := R0.putS pO NIR0kC.out
   replace Rm := Rm.putS pO NIRmkC.out
   replace R1 := R1.putS pO NIR1kC.out
   replace hO := hO.put pO LBhOkC.out
   replace RB := RB.putN pO NIRBkC.out
   replace RBz := Lib.hid (Nat.le_trans RBz.out (Nat.le_of_eq pO.size.symm))
   replace HB := pO.below _ _ HB LEkC.out
   clear kC
   have kC := kC2
   clear kC2 pO
   go_wp2_with (first | go_skip | refine st_C rfl _ _ rfl (askF d M).1 A9 n9 p9 rfl rfl _ kO rfl ?_ | (first | refine lo_Cj kC ?_ | refine lo_cLj kC ?_ | refine lo_cJj kC ?_ | refine lo_Mj kM ?_ | refine lo_mJj kM ?_ | refine lo_Cj kO ?_ | refine lo_cLj kO ?_ | refine lo_cJj kO ?_))
   intro y15 kO2 pO
   replace kC := kC.put pO (Nat.ne_of_lt LTkCkO.out)
   replace kM := kM.put pO (Nat.ne_of_lt LTkMkO.out)
   replace R0 := R0.putS pO NIR0kO.out
   replace Rm := Rm.putS pO NIRmkO.out
   replace R1 := R1.putS pO NIR1kO.out
   replace hO := hO.put pO LBhOkO.out
   replace RB := RB.putN pO NIRBkO.out
   replace RBz := Lib.hid (Nat.le_trans RBz.out (Nat.le_of_eq pO.size.symm))
   replace HB := pO.below _ _ HB LEkO.out
   clear kO
   have kO := kO2
   clear kO2 pO
   go_wp2_with (first | go_skip | refine lo_Cj kC ?_ | refine lo_cLj kC ?_ | refine lo_cJj kC ?_ | refine lo_Mj kM ?_ | refine lo_mJj kM ?_ | refine lo_Cj kO ?_ | refine lo_cLj kO ?_ | refine lo_cJj kO ?_)
   (try simp only [Exit.inBlock, Exit.then])
   refine bodyPost_ret (res2 Tryz.results27 rfl rfl (aggC _) (sizeC _) (ldCv kO)) rfl ?_
   rw [hE2.out]
   first | exact ⟨A9, n9, p9, v9, B9, rfl, RB, hp9, ON92.out, hO, hB7.out, RBz.out, HB⟩ | exact ⟨A9, n9, p9, v9, rfl, B9, RB, hp9, ON92.out, hO, hB7.out, RBz.out, HB⟩
 · skip
   have hE2 : Hid (stepF c m = voteF d M) := by show _ = _; rw [hE.out, go2 hmk.out]
   clear hE
   go_wp2_with (first | go_skip | refine lo_Cj kC ?_ | refine lo_cLj kC ?_ | refine lo_cJj kC ?_ | refine lo_Mj kM ?_ | refine lo_mJj kM ?_ | refine lo_Cj kO ?_ | refine lo_cLj kO ?_ | refine lo_cJj kO ?_)
   clear ck
   refine (takeVote_any d A1 n1 p1 M Am nm pm y12 y12.heap.size R1 (Nat.le_refl _) hp1 HD.out.n HD.out.id1 HD.out.la HD.out.vs hfr.out).mono ?_
   rintro e y13 ⟨A9, n9, p9, v9, B9, rfl, RB, hp9, ON9, hO, hB9, hB8, hY⟩
   have NIRBkC := Lib.hid (NIR1kC.out.next ON9 kC.lt)
   have LBhOkC := Lib.hid (Nat.lt_of_lt_of_le kC.lt hB9)
   have LBhOkM := Lib.hid (Nat.lt_of_lt_of_le kM.lt hB9)
   have NIRBkO := Lib.hid (NIR1kO.out.next ON9 kO.lt)
   have LBhOkO := Lib.hid (Nat.lt_of_lt_of_le kO.lt hB9)
   have ON92 := Lib.hid (ON12.out.trans ON9 HB.size)
   clear ON9
   have hB7 := Lib.hid (Nat.le_trans HB.size hB9)
   have RBz := Lib.hid hB8
   clear hB8 hB9
   replace HB := bt HB hY
   replace kC := kC.b hY
   replace kM := kM.b hY
   replace kO := kO.b hY
   replace R0 := R0.on hY hY.size
   replace Rm := Rm.on hY hY.size
   replace R1 := R1.on hY hY.size
   clear hY
   go_wp2_with (first | go_skip | refine st_C rfl _ _ rfl (voteF d M).1 A9 n9 p9 rfl rfl _ kC rfl ?_ | (first | refine lo_Cj kC ?_ | refine lo_cLj kC ?_ | refine lo_cJj kC ?_ | refine lo_Mj kM ?_ | refine lo_mJj kM ?_ | refine lo_Cj kO ?_ | refine lo_cLj kO ?_ | refine lo_cJj kO ?_))
   intro y14 kC2 pO
   replace kM := kM.put pO (Nat.ne_of_gt LTkCkM.out)
   replace kO := kO.put pO (Nat.ne_of_gt LTkCkO.out)
   replace R0 := R0.putS pO NIR0kC.out
   replace Rm := Rm.putS pO NIRmkC.out
   replace R1 := R1.putS pO NIR1kC.out
   replace hO := hO.put pO LBhOkC.out
   replace RB := RB.putN pO NIRBkC.out
   replace RBz := Lib.hid (Nat.le_trans RBz.out (Nat.le_of_eq pO.size.symm))
   replace HB := pO.below _ _ HB LEkC.out
   clear kC
   have kC := kC2
   clear kC2 pO
   go_wp2_with (first | go_skip | refine st_C rfl _ _ rfl (voteF d M).1 A9 n9 p9 rfl rfl _ kO rfl ?_ | (first | refine lo_Cj kC ?_ | refine lo_cLj kC ?_ | refine lo_cJj kC ?_ | refine lo_Mj kM ?_ | refine lo_mJj kM ?_ | refine lo_Cj kO ?_ | refine lo_cLj kO ?_ | refine lo_cJj kO ?_))
   intro y15 kO2 pO
   replace kC := kC.put pO (Nat.ne_of_lt LTkCkO.out)
   replace kM := kM.put pO (Nat.ne_of_lt LTkMkO.out)
   replace R0 := R0.putS pO NIR0kO.out
   replace Rm := Rm.putS pO NIRmkO.out
   replace R1 := R1.putS pO NIR1kO.out
   replace hO := hO.put pO LBhOkO.out
   replace RB := RB.putN pO NIRBkO.out
   replace RBz := Lib.hid (Nat.le_trans RBz.out (Nat.le_of_eq pO.size.symm))
   replace HB := pO.below _ _ HB LEkO.out
   clear kO
   have kO := kO2
   clear kO2 pO
   go_wp2_with (first | go_skip | refine lo_Cj kC ?_ | refine lo_cLj kC ?_ | refine lo_cJj kC ?_ | refine lo_Mj kM ?_ | refine lo_mJj kM ?_ | refine lo_Cj kO ?_ | refine lo_cLj kO ?_ | refine lo_cJj kO ?_)
   (try simp only [Exit.inBlock, Exit.then])
   refine bodyPost_ret (res2 Tryz.results27 rfl rfl (aggC _) (sizeC _) (ldCv kO)) rfl ?_
   rw [hE2.out]
   first | exact ⟨A9, n9, p9, v9, B9, rfl, RB, hp9, ON92.out, hO, hB7.out, RBz.out, HB⟩ | exact ⟨A9, n9, p9, v9, rfl, B9, RB, hp9, ON92.out, hO, hB7.out, RBz.out, HB⟩
 · skip
   have hE2 : Hid (stepF c m = taF d M) := by show _ = _; rw [hE.out, go3 hmk.out]
   clear hE
   go_wp2_with (first | go_skip | refine lo_Cj kC ?_ | refine lo_cLj kC ?_ | refine lo_cJj kC ?_ | refine lo_Mj kM ?_ | refine lo_mJj kM ?_ | refine lo_Cj kO ?_ | refine lo_cLj kO ?_ | refine lo_cJj kO ?_)
   clear ck
   refine (takeAppend_any d A1 n1 p1 M Am nm pm y12 y12.heap.size R1 (Nat.le_refl _) hp1 y12.heap.size Rm (Nat.le_refl _) hpm HD.out.n.1 HOk.out (by have h := hdl.out; have := hl2.out; have := hml2.out; omega) hmk.out hMp.out.2.2.2.2).mono ?_
   rintro e y13 ⟨A9, n9, p9, v9, B9, rfl, RB, hp9, ON9, hO, hB9, hB8, hY⟩
   have NIRBkC := Lib.hid (NIR1kC.out.next ON9 kC.lt)
   have LBhOkC := Lib.hid (Nat.lt_of_lt_of_le kC.lt hB9)
   have LBhOkM := Lib.hid (Nat.lt_of_lt_of_le kM.lt hB9)
   have NIRBkO := Lib.hid (NIR1kO.out.next ON9 kO.lt)
   have LBhOkO := Lib.hid (Nat.lt_of_lt_of_le kO.lt hB9)
   have ON92 := Lib.hid (ON12.out.trans ON9 HB.size)
   clear ON9
   have hB7 := Lib.hid (Nat.le_trans HB.size hB9)
   have RBz := Lib.hid hB8
   clear hB8 hB9
   replace HB := bt HB hY
   replace kC := kC.b hY
   replace kM := kM.b hY
   replace kO := kO.b hY
   replace R0 := R0.on hY hY.size
   replace Rm := Rm.on hY hY.size
   replace R1 := R1.on hY hY.size
   clear hY
   go_wp2_with (first | go_skip | refine st_C rfl _ _ rfl (taF d M).1 A9 n9 p9 rfl rfl _ kC rfl ?_ | (first | refine lo_Cj kC ?_ | refine lo_cLj kC ?_ | refine lo_cJj kC ?_ | refine lo_Mj kM ?_ | refine lo_mJj kM ?_ | refine lo_Cj kO ?_ | refine lo_cLj kO ?_ | refine lo_cJj kO ?_))
   intro y14 kC2 pO
   replace kM := kM.put pO (Nat.ne_of_gt LTkCkM.out)
   replace kO := kO.put pO (Nat.ne_of_gt LTkCkO.out)
   replace R0 := R0.putS pO NIR0kC.out
   replace Rm := Rm.putS pO NIRmkC.out
   replace R1 := R1.putS pO NIR1kC.out
   replace hO := hO.put pO LBhOkC.out
   replace RB := RB.putN pO NIRBkC.out
   replace RBz := Lib.hid (Nat.le_trans RBz.out (Nat.le_of_eq pO.size.symm))
   replace HB := pO.below _ _ HB LEkC.out
   clear kC
   have kC := kC2
   clear kC2 pO
   go_wp2_with (first | go_skip | refine st_C rfl _ _ rfl (taF d M).1 A9 n9 p9 rfl rfl _ kO rfl ?_ | (first | refine lo_Cj kC ?_ | refine lo_cLj kC ?_ | refine lo_cJj kC ?_ | refine lo_Mj kM ?_ | refine lo_mJj kM ?_ | refine lo_Cj kO ?_ | refine lo_cLj kO ?_ | refine lo_cJj kO ?_))
   intro y15 kO2 pO
   replace kC := kC.put pO (Nat.ne_of_lt LTkCkO.out)
   replace kM := kM.put pO (Nat.ne_of_lt LTkMkO.out)
   replace R0 := R0.putS pO NIR0kO.out
   replace Rm := Rm.putS pO NIRmkO.out
   replace R1 := R1.putS pO NIR1kO.out
   replace hO := hO.put pO LBhOkO.out
   replace RB := RB.putN pO NIRBkO.out
   replace RBz := Lib.hid (Nat.le_trans RBz.out (Nat.le_of_eq pO.size.symm))
   replace HB := pO.below _ _ HB LEkO.out
   clear kO
   have kO := kO2
   clear kO2 pO
   go_wp2_with (first | go_skip | refine lo_Cj kC ?_ | refine lo_cLj kC ?_ | refine lo_cJj kC ?_ | refine lo_Mj kM ?_ | refine lo_mJj kM ?_ | refine lo_Cj kO ?_ | refine lo_cLj kO ?_ | refine lo_cJj kO ?_)
   (try simp only [Exit.inBlock, Exit.then])
   refine bodyPost_ret (res2 Tryz.results27 rfl rfl (aggC _) (sizeC _) (ldCv kO)) rfl ?_
   rw [hE2.out]
   first | exact ⟨A9, n9, p9, v9, B9, rfl, RB, hp9, ON92.out, hO, hB7.out, RBz.out, HB⟩ | exact ⟨A9, n9, p9, v9, rfl, B9, RB, hp9, ON92.out, hO, hB7.out, RBz.out, HB⟩
 · skip
   have hE2 : Hid (stepF c m = ackF d M) := by show _ = _; rw [hE.out, go4 hmk.out]
   clear hE
   go_wp2_with (first | go_skip | refine lo_Cj kC ?_ | refine lo_cLj kC ?_ | refine lo_cJj kC ?_ | refine lo_Mj kM ?_ | refine lo_mJj kM ?_ | refine lo_Cj kO ?_ | refine lo_cLj kO ?_ | refine lo_cJj kO ?_)
   clear ck
   refine (takeAck_any d A1 n1 p1 M Am nm pm y12 y12.heap.size R1 (Nat.le_refl _) hp1 HD.out hfr.out hMp.out.2.2.2.2).mono ?_
   rintro e y13 ⟨A9, n9, p9, v9, B9, rfl, RB, hp9, ON9, hO, hB9, hB8, hY⟩
   have NIRBkC := Lib.hid (NIR1kC.out.next ON9 kC.lt)
   have LBhOkC := Lib.hid (Nat.lt_of_lt_of_le kC.lt hB9)
   have LBhOkM := Lib.hid (Nat.lt_of_lt_of_le kM.lt hB9)
   have NIRBkO := Lib.hid (NIR1kO.out.next ON9 kO.lt)
   have LBhOkO := Lib.hid (Nat.lt_of_lt_of_le kO.lt hB9)
   have ON92 := Lib.hid (ON12.out.trans ON9 HB.size)
   clear ON9
   have hB7 := Lib.hid (Nat.le_trans HB.size hB9)
   have RBz := Lib.hid hB8
   clear hB8 hB9
   replace HB := bt HB hY
   replace kC := kC.b hY
   replace kM := kM.b hY
   replace kO := kO.b hY
   replace R0 := R0.on hY hY.size
   replace Rm := Rm.on hY hY.size
   replace R1 := R1.on hY hY.size
   clear hY
   go_wp2_with (first | go_skip | refine st_C rfl _ _ rfl (ackF d M).1 A9 n9 p9 rfl rfl _ kC rfl ?_ | (first | refine lo_Cj kC ?_ | refine lo_cLj kC ?_ | refine lo_cJj kC ?_ | refine lo_Mj kM ?_ | refine lo_mJj kM ?_ | refine lo_Cj kO ?_ | refine lo_cLj kO ?_ | refine lo_cJj kO ?_))
   intro y14 kC2 pO
   replace kM := kM.put pO (Nat.ne_of_gt LTkCkM.out)
   replace kO := kO.put pO (Nat.ne_of_gt LTkCkO.out)
   replace R0 := R0.putS pO NIR0kC.out
   replace Rm := Rm.putS pO NIRmkC.out
   replace R1 := R1.putS pO NIR1kC.out
   replace hO := hO.put pO LBhOkC.out
   replace RB := RB.putN pO NIRBkC.out
   replace RBz := Lib.hid (Nat.le_trans RBz.out (Nat.le_of_eq pO.size.symm))
   replace HB := pO.below _ _ HB LEkC.out
   clear kC
   have kC := kC2
   clear kC2 pO
   go_wp2_with (first | go_skip | refine st_C rfl _ _ rfl (ackF d M).1 A9 n9 p9 rfl rfl _ kO rfl ?_ | (first | refine lo_Cj kC ?_ | refine lo_cLj kC ?_ | refine lo_cJj kC ?_ | refine lo_Mj kM ?_ | refine lo_mJj kM ?_ | refine lo_Cj kO ?_ | refine lo_cLj kO ?_ | refine lo_cJj kO ?_))
   intro y15 kO2 pO
   replace kC := kC.put pO (Nat.ne_of_lt LTkCkO.out)
   replace kM := kM.put pO (Nat.ne_of_lt LTkMkO.out)
   replace R0 := R0.putS pO NIR0kO.out
   replace Rm := Rm.putS pO NIRmkO.out
   replace R1 := R1.putS pO NIR1kO.out
   replace hO := hO.put pO LBhOkO.out
   replace RB := RB.putN pO NIRBkO.out
   replace RBz := Lib.hid (Nat.le_trans RBz.out (Nat.le_of_eq pO.size.symm))
   replace HB := pO.below _ _ HB LEkO.out
   clear kO
   have kO := kO2
   clear kO2 pO
   go_wp2_with (first | go_skip | refine lo_Cj kC ?_ | refine lo_cLj kC ?_ | refine lo_cJj kC ?_ | refine lo_Mj kM ?_ | refine lo_mJj kM ?_ | refine lo_Cj kO ?_ | refine lo_cLj kO ?_ | refine lo_cJj kO ?_)
   (try simp only [Exit.inBlock, Exit.then])
   refine bodyPost_ret (res2 Tryz.results27 rfl rfl (aggC _) (sizeC _) (ldCv kO)) rfl ?_
   rw [hE2.out]
   first | exact ⟨A9, n9, p9, v9, B9, rfl, RB, hp9, ON92.out, hO, hB7.out, RBz.out, HB⟩ | exact ⟨A9, n9, p9, v9, rfl, B9, RB, hp9, ON92.out, hO, hB7.out, RBz.out, HB⟩
 · skip
   have hE2 : Hid (stepF c m = tsF d M) := by show _ = _; rw [hE.out, go5 hmk.out]
   clear hE
   go_wp2_with (first | go_skip | refine lo_Cj kC ?_ | refine lo_cLj kC ?_ | refine lo_cJj kC ?_ | refine lo_Mj kM ?_ | refine lo_mJj kM ?_ | refine lo_Cj kO ?_ | refine lo_cLj kO ?_ | refine lo_cJj kO ?_)
   clear ck
   refine (takeSnap_any d A1 n1 p1 M Am nm pm y12 y12.heap.size R1 (Nat.le_refl _) hp1 HD.out.n.1 HJ.out).mono ?_
   rintro e y13 ⟨A9, n9, p9, v9, B9, rfl, RB, hp9, ON9, hO, hB9, hB8, hY⟩
   have NIRBkC := Lib.hid (NIR1kC.out.next ON9 kC.lt)
   have LBhOkC := Lib.hid (Nat.lt_of_lt_of_le kC.lt hB9)
   have LBhOkM := Lib.hid (Nat.lt_of_lt_of_le kM.lt hB9)
   have NIRBkO := Lib.hid (NIR1kO.out.next ON9 kO.lt)
   have LBhOkO := Lib.hid (Nat.lt_of_lt_of_le kO.lt hB9)
   have ON92 := Lib.hid (ON12.out.trans ON9 HB.size)
   clear ON9
   have hB7 := Lib.hid (Nat.le_trans HB.size hB9)
   have RBz := Lib.hid hB8
   clear hB8 hB9
   replace HB := bt HB hY
   replace kC := kC.b hY
   replace kM := kM.b hY
   replace kO := kO.b hY
   replace R0 := R0.on hY hY.size
   replace Rm := Rm.on hY hY.size
   replace R1 := R1.on hY hY.size
   clear hY
   go_wp2_with (first | go_skip | refine st_C rfl _ _ rfl (tsF d M).1 A9 n9 p9 rfl rfl _ kC rfl ?_ | (first | refine lo_Cj kC ?_ | refine lo_cLj kC ?_ | refine lo_cJj kC ?_ | refine lo_Mj kM ?_ | refine lo_mJj kM ?_ | refine lo_Cj kO ?_ | refine lo_cLj kO ?_ | refine lo_cJj kO ?_))
   intro y14 kC2 pO
   replace kM := kM.put pO (Nat.ne_of_gt LTkCkM.out)
   replace kO := kO.put pO (Nat.ne_of_gt LTkCkO.out)
   replace R0 := R0.putS pO NIR0kC.out
   replace Rm := Rm.putS pO NIRmkC.out
   replace R1 := R1.putS pO NIR1kC.out
   replace hO := hO.put pO LBhOkC.out
   replace RB := RB.putN pO NIRBkC.out
   replace RBz := Lib.hid (Nat.le_trans RBz.out (Nat.le_of_eq pO.size.symm))
   replace HB := pO.below _ _ HB LEkC.out
   clear kC
   have kC := kC2
   clear kC2 pO
   go_wp2_with (first | go_skip | refine st_C rfl _ _ rfl (tsF d M).1 A9 n9 p9 rfl rfl _ kO rfl ?_ | (first | refine lo_Cj kC ?_ | refine lo_cLj kC ?_ | refine lo_cJj kC ?_ | refine lo_Mj kM ?_ | refine lo_mJj kM ?_ | refine lo_Cj kO ?_ | refine lo_cLj kO ?_ | refine lo_cJj kO ?_))
   intro y15 kO2 pO
   replace kC := kC.put pO (Nat.ne_of_lt LTkCkO.out)
   replace kM := kM.put pO (Nat.ne_of_lt LTkMkO.out)
   replace R0 := R0.putS pO NIR0kO.out
   replace Rm := Rm.putS pO NIRmkO.out
   replace R1 := R1.putS pO NIR1kO.out
   replace hO := hO.put pO LBhOkO.out
   replace RB := RB.putN pO NIRBkO.out
   replace RBz := Lib.hid (Nat.le_trans RBz.out (Nat.le_of_eq pO.size.symm))
   replace HB := pO.below _ _ HB LEkO.out
   clear kO
   have kO := kO2
   clear kO2 pO
   go_wp2_with (first | go_skip | refine lo_Cj kC ?_ | refine lo_cLj kC ?_ | refine lo_cJj kC ?_ | refine lo_Mj kM ?_ | refine lo_mJj kM ?_ | refine lo_Cj kO ?_ | refine lo_cLj kO ?_ | refine lo_cJj kO ?_)
   (try simp only [Exit.inBlock, Exit.then])
   refine bodyPost_ret (res2 Tryz.results27 rfl rfl (aggC _) (sizeC _) (ldCv kO)) rfl ?_
   rw [hE2.out]
   first | exact ⟨A9, n9, p9, v9, B9, rfl, RB, hp9, ON92.out, hO, hB7.out, RBz.out, HB⟩ | exact ⟨A9, n9, p9, v9, rfl, B9, RB, hp9, ON92.out, hO, hB7.out, RBz.out, HB⟩
 · skip
   have hE2 : Hid (stepF c m = (tlF d M, [])) := by show _ = _; rw [hE.out, go6 hmk.out]
   clear hE
   go_wp2_with (first | go_skip | refine lo_Cj kC ?_ | refine lo_cLj kC ?_ | refine lo_cJj kC ?_ | refine lo_Mj kM ?_ | refine lo_mJj kM ?_ | refine lo_Cj kO ?_ | refine lo_cLj kO ?_ | refine lo_cJj kO ?_)
   clear ck
   refine (takeLend_any d A1 n1 p1 M Am nm pm y12 y12.heap.size R1 (Nat.le_refl _) hp1 y12.heap.size Rm (Nat.le_refl _) hpm HD.out.n.1 HOk.out (by have h := hdl.out; have := hl2.out; have := hml2.out; omega) hmk.out).mono ?_
   rintro e y13 ⟨A2, n2, p2, rfl, R2, hp2, ON2, hY⟩
   have NIR2kC := Lib.hid (NIR1kC.out.next ON2 kC.lt)
   have NIR2kO := Lib.hid (NIR1kO.out.next ON2 kO.lt)
   have ON22 := Lib.hid (ON12.out.trans ON2 HB.size)
   clear ON2
   replace HB := bt HB hY
   replace kC := kC.b hY
   replace kM := kM.b hY
   replace kO := kO.b hY
   replace R0 := R0.on hY hY.size
   replace Rm := Rm.on hY hY.size
   replace R1 := R1.on hY hY.size
   clear hY
   go_wp2_with (first | go_skip | refine st_C rfl _ _ rfl (tlF d M) A2 n2 p2 rfl rfl _ kC rfl ?_ | (first | refine lo_Cj kC ?_ | refine lo_cLj kC ?_ | refine lo_cJj kC ?_ | refine lo_Mj kM ?_ | refine lo_mJj kM ?_ | refine lo_Cj kO ?_ | refine lo_cLj kO ?_ | refine lo_cJj kO ?_))
   intro y14 kC2 pO
   replace kM := kM.put pO (Nat.ne_of_gt LTkCkM.out)
   replace kO := kO.put pO (Nat.ne_of_gt LTkCkO.out)
   replace R0 := R0.putS pO NIR0kC.out
   replace Rm := Rm.putS pO NIRmkC.out
   replace R1 := R1.putS pO NIR1kC.out
   replace R2 := R2.putS pO NIR2kC.out
   replace HB := pO.below _ _ HB LEkC.out
   clear kC
   have kC := kC2
   clear kC2 pO
   have hO := OutL.nil y14 y14.heap.size
   have hB7 := Lib.hid (HB.size)
   have RB := R2
   have RBz := Lib.hid (Nat.le_refl y14.heap.size)
   have LBhOkC := Lib.hid kC.lt
   have NIRBkC := NIR2kC
   have LBhOkM := Lib.hid kM.lt
   have LBhOkO := Lib.hid kO.lt
   have NIRBkO := NIR2kO
   obtain ⟨B9, hB9⟩ : ∃ q, y14.heap.size = q := ⟨_, rfl⟩
   rw [hB9] at hO hB7 RB RBz LBhOkC LBhOkM LBhOkO
   replace RBz := Lib.hid (show B9 ≤ y14.heap.size by rw [hB9]; exact Nat.le_refl _)
   clear hB9
   go_wp2_with (first | go_skip | refine st_C rfl _ _ rfl (tlF d M) A2 n2 p2 rfl rfl _ kO rfl ?_ | (first | refine lo_Cj kC ?_ | refine lo_cLj kC ?_ | refine lo_cJj kC ?_ | refine lo_Mj kM ?_ | refine lo_mJj kM ?_ | refine lo_Cj kO ?_ | refine lo_cLj kO ?_ | refine lo_cJj kO ?_))
   intro y15 kO2 pO
   replace kC := kC.put pO (Nat.ne_of_lt LTkCkO.out)
   replace kM := kM.put pO (Nat.ne_of_lt LTkMkO.out)
   replace R0 := R0.putS pO NIR0kO.out
   replace Rm := Rm.putS pO NIRmkO.out
   replace R1 := R1.putS pO NIR1kO.out
   replace R2 := R2.putS pO NIR2kO.out
   replace hO := hO.put pO LBhOkO.out
   replace RB := RB.putN pO NIRBkO.out
   replace RBz := Lib.hid (Nat.le_trans RBz.out (Nat.le_of_eq pO.size.symm))
   replace HB := pO.below _ _ HB LEkO.out
   clear kO
   have kO := kO2
   clear kO2 pO
   go_wp2_with (first | go_skip | refine lo_Cj kC ?_ | refine lo_cLj kC ?_ | refine lo_cJj kC ?_ | refine lo_Mj kM ?_ | refine lo_mJj kM ?_ | refine lo_Cj kO ?_ | refine lo_cLj kO ?_ | refine lo_cJj kO ?_)
   (try simp only [Exit.inBlock, Exit.then])
   refine bodyPost_ret (res2 Tryz.results27 rfl rfl (aggC _) (sizeC _) (ldCv kO)) rfl ?_
   rw [hE2.out]
   first | exact ⟨A2, n2, p2, _, B9, rfl, RB, hp2, ON22.out, hO, hB7.out, RBz.out, HB⟩ | exact ⟨A2, n2, p2, _, rfl, B9, RB, hp2, ON22.out, hO, hB7.out, RBz.out, HB⟩
end Go.Proofs.YtegnfkbmlalkeaaGreat.cor
