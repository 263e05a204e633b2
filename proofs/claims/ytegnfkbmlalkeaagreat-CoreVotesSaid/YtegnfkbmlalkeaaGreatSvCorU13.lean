/- The landed core: takeAppend. Conditions: those that the theorem names. -/
import Derived.Deep.RegionHeld3
import Derived.Deep.Cut
import Derived.Lib.Hide
import Derived.Test.YtegnfkbmlalkeaaGreatSvJ2
import Derived.Test.YtegnfkbmlalkeaaGreatSvJ3
import Derived.Test.YtegnfkbmlalkeaaGreatSvCorA13
import Derived.Test.YtegnfkbmlalkeaaGreatSvEntK
import Derived.Test.YtegnfkbmlalkeaaGreatSvJ0
import Derived.Test.YtegnfkbmlalkeaaGreatSvKitLg
namespace Go.Proofs.YtegnfkbmlalkeaaGreat.cor
open Go Go.RowKit Go.Proofs.YtegnfkbmlalkeaaGreat.kit Go.Proofs.YtegnfkbmlalkeaaGreat.nums Go.Proofs.YtegnfkbmlalkeaaGreat.cf Go.Proofs.YtegnfkbmlalkeaaGreat.lg Go.Proofs.YtegnfkbmlalkeaaGreat.cr Go.Proofs.YtegnfkbmlalkeaaGreat.se
set_option linter.unusedVariables false
set_option maxHeartbeats 4000000 in
set_option maxRecDepth 10000 in
theorem takeAppend_any (c : CoL) (A : Option Addr) (n p : Nat) (m : MsL) (Am : Option Addr) (nm pm : Nat) (w : World) (B : Nat) (hR : RdE w B A n c.lg.es) (hB : B ≤ w.heap.size) (hp : n ≤ p) (Bm : Nat) (hm : RdE w Bm Am nm m.es) (hBm : Bm ≤ w.heap.size) (hpm : nm ≤ pm) (hf : Fit c.lg) (hok : ∀ x ∈ m.es, x.j.ok) (hsz : c.lg.es.length + m.es.length ≤ 1000000) (hk3 : m.k = 3) (hi : 0 ≤ m.i ∧ m.i ≤ 1099511627776) : Calls Tryz.prog 80 #[crV c (.slice A n p), msV m (.slice Am nm pm)] w fun e w' => ∃ A' n' p' v B', e = .returned (.tuple #[crV (taF c m).1 (.slice A' n' p'), v]) ∧ RdE w' B' A' n' (taF c m).1.lg.es ∧ n' ≤ p' ∧ OldNew w.heap.size A n A' n' ∧ OutL w' B' v (taF c m).2 ∧ w.heap.size ≤ B' ∧ B' ≤ w'.heap.size ∧ Below w.heap.size w w' := by
 have HF := Lib.hid hf
 have HOk := Lib.hid hok
 have Rm := hm.more hBm
 have hmlen := Lib.hid hm.len
 have hlen := Lib.hid hR.len
 have hsz2 := Lib.hid hsz
 clear hf hok hm hBm hsz
 have hT0 := Lib.hid (fun h => ta_no (c := c) (m := m) hk3 h)
 have hT1 := Lib.hid (fun a b d => ta_bad (c := c) (m := m) hk3 a b d)
 have hT2 := Lib.hid (fun a b d e => ta_yes (c := c) (m := m) hk3 a b d e)
 obtain ⟨mi, hmi⟩ : ∃ q, m.i = q := ⟨_, rfl⟩
 obtain ⟨ml, hml⟩ : ∃ q, m.lt = q := ⟨_, rfl⟩
 obtain ⟨mf, hmf⟩ : ∃ q, m.f = q := ⟨_, rfl⟩
 obtain ⟨mc, hmc⟩ : ∃ q, m.c = q := ⟨_, rfl⟩
 obtain ⟨ms, hms⟩ : ∃ q, m.s = q := ⟨_, rfl⟩
 obtain ⟨ro, hro⟩ : ∃ q, c.ro = q := ⟨_, rfl⟩
 obtain ⟨cm, hcm⟩ : ∃ q, c.cm = q := ⟨_, rfl⟩
 obtain ⟨sf, hsf⟩ : ∃ q, c.sf = q := ⟨_, rfl⟩
 obtain ⟨tb, htb⟩ : ∃ q, tkB c m.es = q := ⟨_, rfl⟩
 have hMl0 := merge_lenF c.lg m.i m.lt m.es
 obtain ⟨M, hM⟩ : ∃ q, (mergeF c.lg m.i m.lt m.es).1 = q := ⟨_, rfl⟩
 obtain ⟨la, hla⟩ : ∃ q, (mergeF c.lg m.i m.lt m.es).2.1 = q := ⟨_, rfl⟩
 obtain ⟨okb, hokb⟩ : ∃ q, (mergeF c.lg m.i m.lt m.es).2.2 = q := ⟨_, rfl⟩
 obtain ⟨bb, hbb⟩ : ∃ q, becB M = q := ⟨_, rfl⟩
 rw [hM] at hMl0
 have hMl : Hid (M.es.length ≤ 1000000) := by show _ ≤ _; have := hsz2.out; omega
 have hMf : Hid (becB M = true → Fit M) := fun h => by
   unfold becB at h
   rw [Bool.and_eq_true] at h
   exact fit_may h.1 hMl.out
 obtain ⟨lM, hlM⟩ : ∃ q, lastF M = q := ⟨_, rfl⟩
 obtain ⟨lc, hlc⟩ : ∃ q, lastF c.lg = q := ⟨_, rfl⟩
 rw [hro, htb, hokb] at hT0 hT1 hT2
 rw [hM, hbb] at hT0 hT2
 rw [hmf] at hT1 hT2
 rw [hla, hmc, hms] at hT2
 rw [hmi, hlc] at hT1
 rw [hmi] at hi
 obtain ⟨a1, ha1⟩ : ∃ q, min (mi - 1) lc = q := ⟨_, rfl⟩
 obtain ⟨a2, ha2⟩ : ∃ q, max a1 0 = q := ⟨_, rfl⟩
 rw [ha1, ha2] at hT1
 obtain ⟨q1, hq1⟩ : ∃ q, min mc la = q := ⟨_, rfl⟩
 obtain ⟨q2, hq2⟩ : ∃ q, max cm q1 = q := ⟨_, rfl⟩
 obtain ⟨q3, hq3⟩ : ∃ q, min q2 lM = q := ⟨_, rfl⟩
 obtain ⟨sv, hsv⟩ : ∃ q, max sf ms = q := ⟨_, rfl⟩
 have hAp : Hid (apC c mf M la mc ms = { follN c mf with lg := M, cm := q3, sf := sv }) := by show _ = _; unfold apC; rw [hcm, hlM, hsf, hq1, hq2, hq3, hsv]
 have w1 : IntKind.i64.wrap (mi - 1) = mi - 1 := by rw [wrap_sm (by omega) (by omega)]
 clear hk3 hMl0
 replace hmi := Lib.hid hmi
 replace hml := Lib.hid hml
 replace hmf := Lib.hid hmf
 replace hmc := Lib.hid hmc
 replace hms := Lib.hid hms
 replace hro := Lib.hid hro
 replace hcm := Lib.hid hcm
 replace hsf := Lib.hid hsf
 replace htb := Lib.hid htb
 replace hM := Lib.hid hM
 replace hla := Lib.hid hla
 replace hokb := Lib.hid hokb
 replace hbb := Lib.hid hbb
 replace hlM := Lib.hid hlM
 replace hlc := Lib.hid hlc
 replace ha1 := Lib.hid ha1
 replace ha2 := Lib.hid ha2
 replace hq1 := Lib.hid hq1
 replace hq2 := Lib.hid hq2
 replace hq3 := Lib.hid hq3
 have R0 := hR.more hB
 clear hR hB
 go_enter Tryz.func80, Tryz.ntmps80
 have NIR0kC := Lib.hid (NotIn.of_rd R0 (Nat.le_refl _))
 have NIRmkC := Lib.hid (NotIn.of_rd Rm (Nat.le_refl _))
 have LEkC : Hid (w.heap.size ≤ w.heap.size) := Nat.le_refl _
 go_wp2_with (first | go_skip | refine box_C rfl _ rfl c (.slice A n p) rfl ?_ | fail)
 intro y1 kC e1 s1
 clear s1
 have HB := e1
 replace R0 := R0.on e1 e1.size
 replace Rm := Rm.on e1 e1.size
 clear e1
 have LTkCkM := Lib.hid kC.lt
 go_wp2_with (first | go_skip | refine box_M rfl _ rfl m (.slice Am nm pm) rfl ?_ | (first | refine lo_Cj kC ?_ | refine lo_cLj kC ?_ | refine lo_cJj kC ?_))
 intro y2 kM e2 s2
 clear s2
 replace HB := bt HB e2
 replace kC := kC.b e2
 replace R0 := R0.on e2 e2.size
 replace Rm := Rm.on e2 e2.size
 clear e2
 generalize y1.heap.size = gkM at *
 have LTkCkO := Lib.hid kC.lt
 have LTkMkO := Lib.hid kM.lt
 have NIR0kO := Lib.hid (NotIn.of_rd R0 (Nat.le_refl _))
 have NIRmkO := Lib.hid (NotIn.of_rd Rm (Nat.le_refl _))
 have LEkO : Hid (w.heap.size ≤ y2.heap.size) := HB.size
 go_wp2_with (first | go_skip | refine al_C rfl rfl ?_ | (first | refine lo_Cj kC ?_ | refine lo_cLj kC ?_ | refine lo_cJj kC ?_ | refine lo_Mj kM ?_ | refine lo_mJj kM ?_))
 intro y3 kO e3 s3
 clear s3
 replace kO : Blk _ _ _ (crC zC (.slice none 0 0)) := kO
 replace HB := bt HB e3
 replace kC := kC.b e3
 replace kM := kM.b e3
 replace R0 := R0.on e3 e3.size
 replace Rm := Rm.on e3 e3.size
 clear e3
 generalize y2.heap.size = gkO at *
 have c_ro : y3.cell? ⟨w.heap.size, 1, none⟩ = some (.int .i64 ro) := by rw [← hro.out]; exact kC.cell 1
 have ce : y3.cell? ⟨gkM, 9, none⟩ = some (.slice Am nm pm) := by exact kM.cell 9
 by_cases h2 : ro = 2
 · skip
   have br : (ro == 2) = true := by simp [h2]
   replace h2 := Lib.hid h2
   have hE := Lib.hid (hT0.out (.inl h2.out))
   have hO := OutL.nil y3 y3.heap.size
   have hB7 := Lib.hid (HB.size)
   have RB := R0
   have RBz := Lib.hid (Nat.le_refl y3.heap.size)
   have LBhOkC := Lib.hid kC.lt
   have LBhOkM := Lib.hid kM.lt
   have LBhOkO := Lib.hid kO.lt
   have NIRBkO := NIR0kO
   obtain ⟨B9, hB9⟩ : ∃ q, y3.heap.size = q := ⟨_, rfl⟩
   rw [hB9] at hO hB7 RB RBz LBhOkC LBhOkM LBhOkO
   replace RBz := Lib.hid (show B9 ≤ y3.heap.size by rw [hB9]; exact Nat.le_refl _)
   clear hB9
   go_wp2_with (first | go_skip | refine st_C rfl _ _ rfl c A n p rfl rfl _ kO rfl ?_ | (first | refine lo_Cj kC ?_ | refine lo_cLj kC ?_ | refine lo_cJj kC ?_ | refine lo_Mj kM ?_ | refine lo_mJj kM ?_ | refine lo_Cj kO ?_ | refine lo_cLj kO ?_ | refine lo_cJj kO ?_))
   intro y4 kO2 pO
   replace kC := kC.put pO (Nat.ne_of_lt LTkCkO.out)
   replace kM := kM.put pO (Nat.ne_of_lt LTkMkO.out)
   replace R0 := R0.putS pO NIR0kO.out
   replace Rm := Rm.putS pO NIRmkO.out
   replace hO := hO.put pO LBhOkO.out
   replace RB := RB.putN pO NIRBkO.out
   replace RBz := Lib.hid (Nat.le_trans RBz.out (Nat.le_of_eq pO.size.symm))
   replace HB := pO.below _ _ HB LEkO.out
   clear kO
   have kO := kO2
   clear kO2 pO
   clear c_ro ce
   go_wp2_with (first | go_skip | refine lo_Cj kC ?_ | refine lo_cLj kC ?_ | refine lo_cJj kC ?_ | refine lo_Mj kM ?_ | refine lo_mJj kM ?_ | refine lo_Cj kO ?_ | refine lo_cLj kO ?_ | refine lo_cJj kO ?_)
   (try simp only [Exit.inBlock, Exit.then])
   refine bodyPost_ret (res2 Tryz.results80 rfl rfl (aggC _) (sizeC _) (ldCv kO)) rfl ?_
   rw [hE.out]
   first | exact ⟨A, n, p, _, B9, rfl, RB, hp, OldNew.refl _ _ _, hO, hB7.out, RBz.out, HB⟩ | exact ⟨A, n, p, _, rfl, B9, RB, hp, OldNew.refl _ _ _, hO, hB7.out, RBz.out, HB⟩
 have br : (ro == 2) = false := by simp [h2]
 replace h2 := Lib.hid h2
 go_wp2_with (first | go_skip | refine lo_Cj kC ?_ | refine lo_cLj kC ?_ | refine lo_cJj kC ?_ | refine lo_Mj kM ?_ | refine lo_mJj kM ?_ | refine lo_Cj kO ?_ | refine lo_cLj kO ?_ | refine lo_cJj kO ?_)
 have CC := mayTake_any c A n p m.es Am nm pm y3 y3.heap.size Rm (Nat.le_refl _) (by have := hsz2.out; have := hmlen.out; omega) HOk.out
 rw [htb.out] at CC
 refine (CC).mono ?_
 rintro e y4 ⟨rfl, hY⟩
 replace HB := bt HB hY
 replace kC := kC.b hY
 replace kM := kM.b hY
 replace kO := kO.b hY
 replace R0 := R0.on hY hY.size
 replace Rm := Rm.on hY hY.size
 clear hY
 clear CC c_ro ce
 rcases tb with _ | _
 · skip
   have hE := Lib.hid (hT0.out (.inr (.inl (by first | rfl | trivial))))
   try clear c_ro ce
   have hO := OutL.nil y4 y4.heap.size
   have hB7 := Lib.hid (HB.size)
   have RB := R0
   have RBz := Lib.hid (Nat.le_refl y4.heap.size)
   have LBhOkC := Lib.hid kC.lt
   have LBhOkM := Lib.hid kM.lt
   have LBhOkO := Lib.hid kO.lt
   have NIRBkO := NIR0kO
   obtain ⟨B9, hB9⟩ : ∃ q, y4.heap.size = q := ⟨_, rfl⟩
   rw [hB9] at hO hB7 RB RBz LBhOkC LBhOkM LBhOkO
   replace RBz := Lib.hid (show B9 ≤ y4.heap.size by rw [hB9]; exact Nat.le_refl _)
   clear hB9
   go_wp2_with (first | go_skip | refine st_C rfl _ _ rfl c A n p rfl rfl _ kO rfl ?_ | (first | refine lo_Cj kC ?_ | refine lo_cLj kC ?_ | refine lo_cJj kC ?_ | refine lo_Mj kM ?_ | refine lo_mJj kM ?_ | refine lo_Cj kO ?_ | refine lo_cLj kO ?_ | refine lo_cJj kO ?_))
   intro y5 kO2 pO
   replace kC := kC.put pO (Nat.ne_of_lt LTkCkO.out)
   replace kM := kM.put pO (Nat.ne_of_lt LTkMkO.out)
   replace R0 := R0.putS pO NIR0kO.out
   replace Rm := Rm.putS pO NIRmkO.out
   replace hO := hO.put pO LBhOkO.out
   replace RB := RB.putN pO NIRBkO.out
   replace RBz := Lib.hid (Nat.le_trans RBz.out (Nat.le_of_eq pO.size.symm))
   replace HB := pO.below _ _ HB LEkO.out
   clear kO
   have kO := kO2
   clear kO2 pO
   go_wp2_with (first | go_skip | refine lo_Cj kC ?_ | refine lo_cLj kC ?_ | refine lo_cJj kC ?_ | refine lo_Mj kM ?_ | refine lo_mJj kM ?_ | refine lo_Cj kO ?_ | refine lo_cLj kO ?_ | refine lo_cJj kO ?_)
   (try simp only [Exit.inBlock, Exit.then])
   refine bodyPost_ret (res2 Tryz.results80 rfl rfl (aggC _) (sizeC _) (ldCv kO)) rfl ?_
   rw [hE.out]
   first | exact ⟨A, n, p, _, B9, rfl, RB, hp, OldNew.refl _ _ _, hO, hB7.out, RBz.out, HB⟩ | exact ⟨A, n, p, _, rfl, B9, RB, hp, OldNew.refl _ _ _, hO, hB7.out, RBz.out, HB⟩
 have ci : y4.cell? ⟨gkM, 4, none⟩ = some (.int .i64 mi) := by rw [← hmi.out]; exact kM.cell 4
 have ct : y4.cell? ⟨gkM, 5, none⟩ = some (.int .i64 ml) := by rw [← hml.out]; exact kM.cell 5
 have ce : y4.cell? ⟨gkM, 9, none⟩ = some (.slice Am nm pm) := by exact kM.cell 9
 go_wp2_with (first | go_skip | refine lo_Cj kC ?_ | refine lo_cLj kC ?_ | refine lo_cJj kC ?_ | refine lo_Mj kM ?_ | refine lo_mJj kM ?_ | refine lo_Cj kO ?_ | refine lo_cLj kO ?_ | refine lo_cJj kO ?_)
 clear ci ct ce
 have CC := enti.merge_any c.lg A n p m.i m.lt Am nm pm m.es y4 y4.heap.size R0 (Nat.le_refl _) hp HF.out y4.heap.size Rm (Nat.le_refl _) hpm (by have := hsz2.out; have := hmlen.out; omega)
 rw [hM.out, hla.out, hokb.out, hmi.out, hml.out] at CC
 refine CC.mono ?_
 rintro e y5 ⟨A5, n5, p5, rfl, hn5, hO, hY⟩
 clear CC
 replace hn5 := Lib.hid hn5
 have NIR5kC := Lib.hid (NotIn.of_own hO kC.lt)
 have NIR5kO := Lib.hid (NotIn.of_own hO kO.lt)
 have ON52 : Hid (OldNew w.heap.size A n A5 n5) := OldNew.own hO HB.size
 have R5 := hO.cap.2.2.2
 have hp5 := hO.cap.2.1
 clear hO
 replace HB := bt HB hY
 replace kC := kC.b hY
 replace kM := kM.b hY
 replace kO := kO.b hY
 replace R0 := R0.on hY hY.size
 replace Rm := Rm.on hY hY.size
 clear hY
 have LTkCkL := Lib.hid kC.lt
 have LTkMkL := Lib.hid kM.lt
 have LTkOkL := Lib.hid kO.lt
 have NIR0kL := Lib.hid (NotIn.of_rd R0 (Nat.le_refl _))
 have NIRmkL := Lib.hid (NotIn.of_rd Rm (Nat.le_refl _))
 have NIR5kL := Lib.hid (NotIn.of_rd R5 (Nat.le_refl _))
 have LEkL : Hid (w.heap.size ≤ y5.heap.size) := HB.size
 go_wp2_with (first | go_skip | refine al_L rfl rfl ?_ | (first | refine lo_Cj kC ?_ | refine lo_cLj kC ?_ | refine lo_cJj kC ?_ | refine lo_Mj kM ?_ | refine lo_mJj kM ?_ | refine lo_Cj kO ?_ | refine lo_cLj kO ?_ | refine lo_cJj kO ?_))
 intro y6 kL e6 s6
 clear s6
 replace kL : Blk _ _ _ (lgC zL (.slice none 0 0)) := kL
 replace HB := bt HB e6
 replace kC := kC.b e6
 replace kM := kM.b e6
 replace kO := kO.b e6
 replace R0 := R0.on e6 e6.size
 replace Rm := Rm.on e6 e6.size
 replace R5 := R5.on e6 e6.size
 clear e6
 generalize y5.heap.size = gkL at *
 go_wp2_with (first | go_skip | refine st_L rfl _ _ rfl M A5 n5 p5 rfl rfl _ kL rfl ?_ | (first | refine lo_Cj kC ?_ | refine lo_cLj kC ?_ | refine lo_cJj kC ?_ | refine lo_Mj kM ?_ | refine lo_mJj kM ?_ | refine lo_Cj kO ?_ | refine lo_cLj kO ?_ | refine lo_cJj kO ?_ | refine lo_Lj kL ?_ | refine lo_lJj kL ?_))
 intro y7 kL2 pO
 replace kC := kC.put pO (Nat.ne_of_lt LTkCkL.out)
 replace kM := kM.put pO (Nat.ne_of_lt LTkMkL.out)
 replace kO := kO.put pO (Nat.ne_of_lt LTkOkL.out)
 replace R0 := R0.putS pO NIR0kL.out
 replace Rm := Rm.putS pO NIRmkL.out
 replace R5 := R5.putS pO NIR5kL.out
 replace HB := pO.below _ _ HB LEkL.out
 clear kL
 have kL := kL2
 clear kL2 pO
 have hl5 := Lib.hid R5.len
 rcases okb with _ | _
 rotate_left
 · skip
   go_wp2_with (first | go_skip | refine lo_Cj kC ?_ | refine lo_cLj kC ?_ | refine lo_cJj kC ?_ | refine lo_Mj kM ?_ | refine lo_mJj kM ?_ | refine lo_Cj kO ?_ | refine lo_cLj kO ?_ | refine lo_cJj kO ?_ | refine lo_Lj kL ?_ | refine lo_lJj kL ?_)
   have CC := mayBecome_any M A5 n5 p5 y7 y7.heap.size R5 (Nat.le_refl _) (by have := hMl.out; have := hl5.out; omega)
   rw [hbb.out] at CC
   refine (CC).mono ?_
   rintro e y8 ⟨rfl, hY⟩
   replace HB := bt HB hY
   replace kC := kC.b hY
   replace kM := kM.b hY
   replace kO := kO.b hY
   replace kL := kL.b hY
   replace R0 := R0.on hY hY.size
   replace Rm := Rm.on hY hY.size
   replace R5 := R5.on hY hY.size
   clear hY
   clear CC
   rcases bb with _ | _
   · skip
     have hE := Lib.hid (hT0.out (.inr (.inr ⟨by first | rfl | trivial, by first | rfl | trivial⟩)))
     try clear c_ro ce
     have hO := OutL.nil y8 y8.heap.size
     have hB7 := Lib.hid (HB.size)
     have RB := R0
     have RBz := Lib.hid (Nat.le_refl y8.heap.size)
     have LBhOkC := Lib.hid kC.lt
     have LBhOkM := Lib.hid kM.lt
     have LBhOkO := Lib.hid kO.lt
     have NIRBkO := NIR0kO
     have LBhOkL := Lib.hid kL.lt
     obtain ⟨B9, hB9⟩ : ∃ q, y8.heap.size = q := ⟨_, rfl⟩
     rw [hB9] at hO hB7 RB RBz LBhOkC LBhOkM LBhOkO LBhOkL
     replace RBz := Lib.hid (show B9 ≤ y8.heap.size by rw [hB9]; exact Nat.le_refl _)
     clear hB9
     go_wp2_with (first | go_skip | refine st_C rfl _ _ rfl c A n p rfl rfl _ kO rfl ?_ | (first | refine lo_Cj kC ?_ | refine lo_cLj kC ?_ | refine lo_cJj kC ?_ | refine lo_Mj kM ?_ | refine lo_mJj kM ?_ | refine lo_Cj kO ?_ | refine lo_cLj kO ?_ | refine lo_cJj kO ?_ | refine lo_Lj kL ?_ | refine lo_lJj kL ?_))
     intro y9 kO2 pO
     replace kC := kC.put pO (Nat.ne_of_lt LTkCkO.out)
     replace kM := kM.put pO (Nat.ne_of_lt LTkMkO.out)
     replace kL := kL.put pO (Nat.ne_of_gt LTkOkL.out)
     replace R0 := R0.putS pO NIR0kO.out
     replace Rm := Rm.putS pO NIRmkO.out
     replace R5 := R5.putS pO NIR5kO.out
     replace hO := hO.put pO LBhOkO.out
     replace RB := RB.putN pO NIRBkO.out
     replace RBz := Lib.hid (Nat.le_trans RBz.out (Nat.le_of_eq pO.size.symm))
     replace HB := pO.below _ _ HB LEkO.out
     clear kO
     have kO := kO2
     clear kO2 pO
     go_wp2_with (first | go_skip | refine lo_Cj kC ?_ | refine lo_cLj kC ?_ | refine lo_cJj kC ?_ | refine lo_Mj kM ?_ | refine lo_mJj kM ?_ | refine lo_Cj kO ?_ | refine lo_cLj kO ?_ | refine lo_cJj kO ?_ | refine lo_Lj kL ?_ | refine lo_lJj kL ?_)
     (try simp only [Exit.inBlock, Exit.then])
     refine bodyPost_ret (res2 Tryz.results80 rfl rfl (aggC _) (sizeC _) (ldCv kO)) rfl ?_
     rw [hE.out]
     first | exact ⟨A, n, p, _, B9, rfl, RB, hp, OldNew.refl _ _ _, hO, hB7.out, RBz.out, HB⟩ | exact ⟨A, n, p, _, rfl, B9, RB, hp, OldNew.refl _ _ _, hO, hB7.out, RBz.out, HB⟩
   have hMF := Lib.hid (hMf.out hbb.out)
   have hE := Lib.hid (hT2.out h2.out (by first | rfl | trivial) (by first | rfl | trivial) (by first | rfl | trivial))
   clear hT0 hT1 hT2
   have c_mf : y8.cell? ⟨gkM, 1, none⟩ = some (.int .i64 mf) := by rw [← hmf.out]; exact kM.cell 1
   go_wp2_with (first | go_skip | refine lo_Cj kC ?_ | refine lo_cLj kC ?_ | refine lo_cJj kC ?_ | refine lo_Mj kM ?_ | refine lo_mJj kM ?_ | refine lo_Cj kO ?_ | refine lo_cLj kO ?_ | refine lo_cJj kO ?_ | refine lo_Lj kL ?_ | refine lo_lJj kL ?_)
   refine (follow_any c A n p mf y8).mono ?_
   rintro e y9 ⟨rfl, hY⟩
   replace HB := bt HB hY
   replace kC := kC.b hY
   replace kM := kM.b hY
   replace kO := kO.b hY
   replace kL := kL.b hY
   replace R0 := R0.on hY hY.size
   replace Rm := Rm.on hY hY.size
   replace R5 := R5.on hY hY.size
   clear hY
   clear c_mf
   go_wp2_with (first | go_skip | refine st_C rfl _ _ rfl (follN c mf) A n p rfl rfl _ kC rfl ?_ | (first | refine lo_Cj kC ?_ | refine lo_cLj kC ?_ | refine lo_cJj kC ?_ | refine lo_Mj kM ?_ | refine lo_mJj kM ?_ | refine lo_Cj kO ?_ | refine lo_cLj kO ?_ | refine lo_cJj kO ?_ | refine lo_Lj kL ?_ | refine lo_lJj kL ?_))
   intro y10 kC2 pO
   replace kM := kM.put pO (Nat.ne_of_gt LTkCkM.out)
   replace kO := kO.put pO (Nat.ne_of_gt LTkCkO.out)
   replace kL := kL.put pO (Nat.ne_of_gt LTkCkL.out)
   replace R0 := R0.putS pO NIR0kC.out
   replace Rm := Rm.putS pO NIRmkC.out
   replace R5 := R5.putS pO NIR5kC.out
   replace HB := pO.below _ _ HB LEkC.out
   clear kC
   have kC := kC2
   clear kC2 pO
   have c_mf : y10.cell? ⟨gkM, 1, none⟩ = some (.int .i64 mf) := by rw [← hmf.out]; exact kM.cell 1
   go_wp2_with (first | go_skip | refine lo_Cj kC ?_ | refine lo_cLj kC ?_ | refine lo_cJj kC ?_ | refine lo_Mj kM ?_ | refine lo_mJj kM ?_ | refine lo_Cj kO ?_ | refine lo_cLj kO ?_ | refine lo_cJj kO ?_ | refine lo_Lj kL ?_ | refine lo_lJj kL ?_)
   clear c_mf
   refine (letter_any (follN c mf) A n p 4 mf y10).mono ?_
   rintro e y11 ⟨rfl, hY⟩
   replace HB := bt HB hY
   replace kC := kC.b hY
   replace kM := kM.b hY
   replace kO := kO.b hY
   replace kL := kL.b hY
   replace R0 := R0.on hY hY.size
   replace Rm := Rm.on hY hY.size
   replace R5 := R5.on hY hY.size
   clear hY
   have LTkCkA := Lib.hid kC.lt
   have LTkMkA := Lib.hid kM.lt
   have LTkOkA := Lib.hid kO.lt
   have LTkLkA := Lib.hid kL.lt
   have NIR0kA := Lib.hid (NotIn.of_rd R0 (Nat.le_refl _))
   have NIRmkA := Lib.hid (NotIn.of_rd Rm (Nat.le_refl _))
   have NIR5kA := Lib.hid (NotIn.of_rd R5 (Nat.le_refl _))
   have LEkA : Hid (w.heap.size ≤ y11.heap.size) := HB.size
   go_wp2_with (first | go_skip | refine al_M rfl rfl ?_ | (first | refine lo_Cj kC ?_ | refine lo_cLj kC ?_ | refine lo_cJj kC ?_ | refine lo_Mj kM ?_ | refine lo_mJj kM ?_ | refine lo_Cj kO ?_ | refine lo_cLj kO ?_ | refine lo_cJj kO ?_ | refine lo_Lj kL ?_ | refine lo_lJj kL ?_))
   intro y12 kA e12 s12
   clear s12
   replace kA : Blk _ _ _ (msC zM (.slice none 0 0)) := kA
   replace HB := bt HB e12
   replace kC := kC.b e12
   replace kM := kM.b e12
   replace kO := kO.b e12
   replace kL := kL.b e12
   replace R0 := R0.on e12 e12.size
   replace Rm := Rm.on e12 e12.size
   replace R5 := R5.on e12 e12.size
   clear e12
   generalize y11.heap.size = gkA at *
   go_wp2_with (first | go_skip | refine st_M rfl _ _ rfl (letM (follN c mf) 4 mf) none 0 0 rfl rfl _ kA rfl ?_ | (first | refine lo_Cj kC ?_ | refine lo_cLj kC ?_ | refine lo_cJj kC ?_ | refine lo_Mj kM ?_ | refine lo_mJj kM ?_ | refine lo_Cj kO ?_ | refine lo_cLj kO ?_ | refine lo_cJj kO ?_ | refine lo_Lj kL ?_ | refine lo_lJj kL ?_ | refine lo_Mj kA ?_ | refine lo_mJj kA ?_))
   intro y13 kA2 pO
   replace kC := kC.put pO (Nat.ne_of_lt LTkCkA.out)
   replace kM := kM.put pO (Nat.ne_of_lt LTkMkA.out)
   replace kO := kO.put pO (Nat.ne_of_lt LTkOkA.out)
   replace kL := kL.put pO (Nat.ne_of_lt LTkLkA.out)
   replace R0 := R0.putS pO NIR0kA.out
   replace Rm := Rm.putS pO NIRmkA.out
   replace R5 := R5.putS pO NIR5kA.out
   replace HB := pO.below _ _ HB LEkA.out
   clear kA
   have kA := kA2
   clear kA2 pO
   go_wp2_with (first | go_skip | refine wpList_stAt rfl 30 _ _ rfl (cells := (lgC M (.slice A5 n5 p5)).toArray) (crC { follN c mf with lg := M } (.slice A5 n5 p5)) rfl rfl kC sizeLv (by show 8 + 14 ≤ 45; omega) (lg_one _) rfl ?_ | (first | refine lo_Cj kC ?_ | refine lo_cLj kC ?_ | refine lo_cJj kC ?_ | refine lo_Mj kM ?_ | refine lo_mJj kM ?_ | refine lo_Cj kO ?_ | refine lo_cLj kO ?_ | refine lo_cJj kO ?_ | refine lo_Lj kL ?_ | refine lo_lJj kL ?_ | refine lo_Mj kA ?_ | refine lo_mJj kA ?_))
   intro y14 kC2 pO
   replace kM := kM.put pO (Nat.ne_of_gt LTkCkM.out)
   replace kO := kO.put pO (Nat.ne_of_gt LTkCkO.out)
   replace kL := kL.put pO (Nat.ne_of_gt LTkCkL.out)
   replace kA := kA.put pO (Nat.ne_of_gt LTkCkA.out)
   replace R0 := R0.putS pO NIR0kC.out
   replace Rm := Rm.putS pO NIRmkC.out
   replace R5 := R5.putS pO NIR5kC.out
   replace HB := pO.below _ _ HB LEkC.out
   clear kC
   have kC := kC2
   clear kC2 pO
   go_upto_region 12 with (first | go_skip | refine lo_Cj kC ?_ | refine lo_cLj kC ?_ | refine lo_cJj kC ?_ | refine lo_Mj kM ?_ | refine lo_mJj kM ?_ | refine lo_Cj kO ?_ | refine lo_cLj kO ?_ | refine lo_cJj kO ?_ | refine lo_Lj kL ?_ | refine lo_lJj kL ?_ | refine lo_Mj kA ?_ | refine lo_mJj kA ?_)
   refine tail.region (S := fun wq => wq.cell? ⟨w.heap.size, 6, none⟩ = some (.int .i64 cm) ∧ wq.cell? ⟨gkM, 6, none⟩ = some (.int .i64 mc) ∧ Blk 30 wq gkL (lgC M (.slice A5 n5 p5))) [11] (by kernel_rfl) (⟨by rw [← hcm.out]; exact kC.drew.cell 6, by rw [← hmc.out]; exact kM.drew.cell 6, kL.drew⟩) (fun hHeld => ?_)
   have hD0 := (Below.refl y14.heap.size y14).drew
   replace HB := bt HB hD0
   replace kC := kC.b hD0
   replace kM := kM.b hD0
   replace kO := kO.b hD0
   replace kL := kL.b hD0
   replace kA := kA.b hD0
   replace R0 := R0.on hD0 hD0.size
   replace Rm := Rm.on hD0 hD0.size
   replace R5 := R5.on hD0 hD0.size
   clear hD0
   generalize y14.drew = y15 at *
   have sS : y15.cell? ⟨w.heap.size, 6, none⟩ = some (.int .i64 cm) ∧ y15.cell? ⟨gkM, 6, none⟩ = some (.int .i64 mc) ∧ Blk 30 y15 gkL (lgC M (.slice A5 n5 p5)) := ⟨by rw [← hcm.out]; exact kC.cell 6, by rw [← hmc.out]; exact kM.cell 6, kL⟩
   refine tail.tt 0 (v := ?v_0_83) (?y_0_83) ?_
   case y_0_83 => (intro wq hSw; (try dsimp only at hSw); go_simp; first | done | with_reducible rfl)
   try simp only [Act.put, ka, kb, kc]
   refine tail.tt 1 (v := ?v_1_83) (?y_1_83) ?_
   case y_1_83 => (intro wq hSw; (try dsimp only at hSw); go_simp; first | done | with_reducible rfl)
   try simp only [Act.put, ka, kb, kc]
   refine tail.tt 2 (v := ?v_2_83) (?y_2_83) ?_
   case y_2_83 => (intro wq hSw; (try dsimp only at hSw); go_simp; first | done | with_reducible rfl)
   try simp only [Act.put, ka, kb, kc]
   refine tail.tt 3 (v := ?v_3_83) (?y_3_83) ?_
   case y_3_83 => (intro wq hSw; (try dsimp only at hSw); go_simp; first | done | with_reducible rfl)
   try simp only [Act.put, ka, kb, kc]
   refine tail.tt 4 (v := ?v_4_83) (?y_4_83) ?_
   case y_4_83 => (intro wq hSw; (try dsimp only at hSw); go_simp; first | done | with_reducible rfl)
   try simp only [Act.put, ka, kb, kc]
   refine tail.tt 5 (v := (.int .i64 q1)) (?y_5_83) ?_
   case y_5_83 => exact fun wq hSw => rb_minz rfl rfl rfl rfl hq1.out
   try simp only [Act.put, ka, kb, kc]
   refine tail.tt 6 (v := (.int .i64 q2)) (?y_6_83) ?_
   case y_6_83 => exact fun wq hSw => rb_maxz rfl rfl rfl rfl hq2.out
   try simp only [Act.put, ka, kb, kc]
   refine tail.tt 7 (fun wq hSw => rld_L rfl rfl (And.right <| And.right hSw)) ?_
   try simp only [Act.put, ka, kb, kc]
   refine tail.tn 8 (fun KQ hKQ => ?_)
   go_simp
   have CC := enti.last_any M A5 n5 p5 y15 hl5.out hMF.out
   rw [hlM.out] at CC
   refine (CC).mono ?_
   rintro e y16 ⟨rfl, hY⟩
   replace HB := bt HB hY
   replace kC := kC.b hY
   replace kM := kM.b hY
   replace kO := kO.b hY
   replace kL := kL.b hY
   replace kA := kA.b hY
   replace R0 := R0.on hY hY.size
   replace Rm := Rm.on hY hY.size
   replace R5 := R5.on hY hY.size
   clear hY
   clear CC sS
   have sS : y16.cell? ⟨w.heap.size, 6, none⟩ = some (.int .i64 cm) ∧ y16.cell? ⟨gkM, 6, none⟩ = some (.int .i64 mc) ∧ Blk 30 y16 gkL (lgC M (.slice A5 n5 p5)) := ⟨by rw [← hcm.out]; exact kC.cell 6, by rw [← hmc.out]; exact kM.cell 6, kL⟩
   go_wp2_with fail
   refine hKQ.out _ _ ?s_8 ?_
   case s_8 => exact .inr sS
   clear hKQ KQ
   try simp only [Act.put, ka, kb, kc]
   refine tail.tt 9 (v := (.int .i64 q3)) (?y_9_83) ?_
   case y_9_83 => exact fun wq hSw => rb_minz rfl rfl rfl rfl hq3.out
   try simp only [Act.put, ka, kb, kc]
   refine tail.tt 10 (v := ?v_10_83) (?y_10_83) ?_
   case y_10_83 => (intro wq hSw; (try dsimp only at hSw); go_simp; first | done | with_reducible rfl)
   try simp only [Act.put, ka, kb, kc]
   refine tail.tn 11 (fun KQ hKQ => ?_)
   have df := fun i => kC.frozen i
   have cR := kC.cell 6
   go_simp
   clear df cR sS
   have kC2 : Blk 33 _ w.heap.size (crC { follN c mf with lg := M, cm := q3 } (.slice A5 n5 p5)) := kC.set_ 6 (.int .i64 q3)
   have pO := put_set y16 w.heap.size (6) (.int .i64 q3)
   generalize (y16.setCell ⟨w.heap.size, 6, none⟩ (.int .i64 q3)) = y17 at *
   replace kM := kM.put pO (Nat.ne_of_gt LTkCkM.out)
   replace kO := kO.put pO (Nat.ne_of_gt LTkCkO.out)
   replace kL := kL.put pO (Nat.ne_of_gt LTkCkL.out)
   replace kA := kA.put pO (Nat.ne_of_gt LTkCkA.out)
   replace R0 := R0.putS pO NIR0kC.out
   replace Rm := Rm.putS pO NIRmkC.out
   replace R5 := R5.putS pO NIR5kC.out
   replace HB := pO.below _ _ HB LEkC.out
   clear kC
   have kC := kC2
   clear kC2 pO
   refine hKQ.out _ _ ?s_11 ?_
   case s_11 => exact .inl (by decide)
   clear hKQ KQ
   try simp only [Act.put]
   refine tail.done (by kernel_rfl) ?_ _
   have csf : y17.cell? ⟨w.heap.size, 7, none⟩ = some (.int .i64 sf) := by rw [← hsf.out]; exact kC.cell 7
   have cms : y17.cell? ⟨gkM, 7, none⟩ = some (.int .i64 ms) := by rw [← hms.out]; exact kM.cell 7
   have df := fun i => kC.frozen i
   go_upto_region 14 with (go_skip)
   clear df csf cms
   have kC2 : Blk 33 _ w.heap.size (crC { follN c mf with lg := M, cm := q3, sf := sv } (.slice A5 n5 p5)) := kC.set_ 7 (.int .i64 sv)
   have pO := put_set y17 w.heap.size (7) (.int .i64 sv)
   generalize (y17.setCell ⟨w.heap.size, 7, none⟩ (.int .i64 sv)) = y18 at *
   replace kM := kM.put pO (Nat.ne_of_gt LTkCkM.out)
   replace kO := kO.put pO (Nat.ne_of_gt LTkCkO.out)
   replace kL := kL.put pO (Nat.ne_of_gt LTkCkL.out)
   replace kA := kA.put pO (Nat.ne_of_gt LTkCkA.out)
   replace R0 := R0.putS pO NIR0kC.out
   replace Rm := Rm.putS pO NIRmkC.out
   replace R5 := R5.putS pO NIR5kC.out
   replace HB := pO.below _ _ HB LEkC.out
   clear kC
   have kC := kC2
   clear kC2 pO
   rw [← hAp.out] at kC
   replace hsv := Lib.hid hsv
   have df := fun i => kA.frozen i
   have cR8 : _ = some _ := kA.cell 8
   have cR4 : _ = some _ := kA.cell 4
   go_upto_region 15 with (go_skip)
   clear df cR8 cR4
   have kA2 : Blk 49 _ gkA (msC { letM (follN c mf) 4 mf with y := true } (.slice none 0 0)) := kA.set_ 8 (.bool true)
   have pO := put_set y18 gkA (8) (.bool true)
   generalize (y18.setCell ⟨gkA, 8, none⟩ (.bool true)) = y19 at *
   replace kC := kC.put pO (Nat.ne_of_lt LTkCkA.out)
   replace kM := kM.put pO (Nat.ne_of_lt LTkMkA.out)
   replace kO := kO.put pO (Nat.ne_of_lt LTkOkA.out)
   replace kL := kL.put pO (Nat.ne_of_lt LTkLkA.out)
   replace R0 := R0.putS pO NIR0kA.out
   replace Rm := Rm.putS pO NIRmkA.out
   replace R5 := R5.putS pO NIR5kA.out
   replace HB := pO.below _ _ HB LEkA.out
   clear kA
   have kA := kA2
   clear kA2 pO
   have kA2 : Blk 49 _ gkA (msC { letM (follN c mf) 4 mf with y := true, i := la } (.slice none 0 0)) := kA.set_ 4 (.int .i64 la)
   have pO := put_set y19 gkA (4) (.int .i64 la)
   generalize (y19.setCell ⟨gkA, 4, none⟩ (.int .i64 la)) = y20 at *
   replace kC := kC.put pO (Nat.ne_of_lt LTkCkA.out)
   replace kM := kM.put pO (Nat.ne_of_lt LTkMkA.out)
   replace kO := kO.put pO (Nat.ne_of_lt LTkOkA.out)
   replace kL := kL.put pO (Nat.ne_of_lt LTkLkA.out)
   replace R0 := R0.putS pO NIR0kA.out
   replace Rm := Rm.putS pO NIRmkA.out
   replace R5 := R5.putS pO NIR5kA.out
   replace HB := pO.below _ _ HB LEkA.out
   clear kA
   have kA := kA2
   clear kA2 pO
   go_upto_region 15 with (first | go_skip | refine lo_Cj kC ?_ | refine lo_cLj kC ?_ | refine lo_cJj kC ?_ | refine lo_Mj kM ?_ | refine lo_mJj kM ?_ | refine lo_Cj kO ?_ | refine lo_cLj kO ?_ | refine lo_cJj kO ?_ | refine lo_Lj kL ?_ | refine lo_lJj kL ?_ | refine lo_Mj kA ?_ | refine lo_mJj kA ?_)
   refine wp_region_held_drew (S := fun wq => Blk 33 wq w.heap.size (crC (apC c mf M la mc ms) (.slice A5 n5 p5)) ∧ Blk 49 wq gkA (msC { letM (follN c mf) 4 mf with y := true, i := la } (.slice none 0 0))) (by kernel_rfl) ?s_tkp15 (fun hHeld => ?_)
   case s_tkp15 => exact ⟨kC, kA⟩
   have hD := (Below.refl y20.heap.size y20).drew
   replace HB := bt HB hD
   replace kC := kC.b hD
   replace kM := kM.b hD
   replace kO := kO.b hD
   replace kL := kL.b hD
   replace kA := kA.b hD
   replace R0 := R0.on hD hD.size
   replace Rm := Rm.on hD hD.size
   replace R5 := R5.on hD hD.size
   clear hD
   generalize y20.drew = yq at *
   refine tj 0 _ ?_ (hy := fun wq hSw => rld_C rfl rfl (And.left hSw))
   try simp only [Act.put, ka, kb, kc]
   refine tj 1 _ ?_ (hy := fun wq hSw => rld_M rfl rfl (And.right hSw))
   try simp only [Act.put, ka, kb, kc]
   refine rr [2, 3] ?_
   refine rc (fun KQ hKQ => ?_) (rc (fun KQ hKQ => ?_) (AllReadyH.nil))
   · refine step_bsR rfl _ 38 rfl _ rfl _ (run_bsM2 { letM (follN c mf) 4 mf with y := true, i := la } (.slice none 0 0) yq) ?_
     rintro v yq2 ⟨rfl, kB, hX⟩
     have hO := OutL.one (B := yq.heap.size) kB (OwnE.nil _ _) (Nat.le_refl _)
     have LBhOkC := Lib.hid kC.lt
     have LBhOkM := Lib.hid kM.lt
     have LBhOkO := Lib.hid kO.lt
     have NIRBkO := NIR5kO
     have LBhOkL := Lib.hid kL.lt
     have RB := R5.below hX
     have hB7 := Lib.hid HB.size
     have RBz := Lib.hid hX.size
     clear kB
     replace HB := bt HB hX
     replace kC := kC.b hX
     replace kM := kM.b hX
     replace kO := kO.b hX
     replace kL := kL.b hX
     replace kA := kA.b hX
     replace R0 := R0.on hX hX.size
     replace Rm := Rm.on hX hX.size
     replace R5 := R5.on hX hX.size
     clear hX
     generalize yq.heap.size = B9 at *
     obtain ⟨yq, hyq⟩ : ∃ z, z = yq2 := ⟨_, rfl⟩
     subst hyq
     refine hKQ.out _ _ (⟨kC, kA⟩) (fun _ => ?_)
     clear hKQ KQ
     try simp only [Act.put, ka, kb, kc]
     refine rr [3] ?_
     refine rc (fun KQ hKQ => ?_) AllReadyH.nil
     refine step_stAt rfl 33 _ _ rfl (cells := (crC (apC c mf M la mc ms) (.slice A5 n5 p5)).toArray) (crC (apC c mf M la mc ms) (.slice A5 n5 p5)) rfl rfl kO sizeCv (by show 0 + 45 ≤ 45; omega) (cr_one _) rfl ?_
     intro yq2 kO2 pO
     try replace hO := hO.put pO LBhOkO.out
     try replace RB := RB.putN pO NIRBkO.out
     try replace RBz := Lib.hid (Nat.le_trans RBz.out (Nat.le_of_eq pO.size.symm))
     try replace hE7 := Lib.hid (hE7.out.put pO LBhOkO.out)
     replace kC := kC.put pO (Nat.ne_of_lt LTkCkO.out)
     replace kM := kM.put pO (Nat.ne_of_lt LTkMkO.out)
     replace kL := kL.put pO (Nat.ne_of_gt LTkOkL.out)
     replace kA := kA.put pO (Nat.ne_of_gt LTkOkA.out)
     replace R0 := R0.putS pO NIR0kO.out
     replace Rm := Rm.putS pO NIRmkO.out
     replace R5 := R5.putS pO NIR5kO.out
     replace HB := pO.below _ _ HB LEkO.out
     clear kO
     have kO := kO2
     clear kO2 pO
     obtain ⟨yq, hyq⟩ : ∃ z, z = yq2 := ⟨_, rfl⟩
     subst hyq
     refine hKQ.out _ _ (⟨kC, kA⟩) (fun _ => ?_)
     clear hKQ KQ
     try simp only [Act.put]
     refine tj 4 _ ?_
     try simp only [Act.put, ka, kb, kc]
     refine wpAnyH_done (by kernel_rfl) ?_ _
     simp only [Exit.then]
     refine (‹∀ (a : Act) (w : World), Code.wp _ Code.ret _ a w → _›) _ _ (wp_ret ?_)
     first | (show bodyPost _ _ _ Exit.ret _ _) | (simp only [Exit.then]; show bodyPost _ _ _ Exit.ret _ _) | (simp only [Exit.then, Exit.inBlock]; show bodyPost _ _ _ Exit.ret _ _)
     refine bodyPost_ret (res2 Tryz.results80 rfl rfl (aggC _) (sizeC _) (ldCv kO)) rfl ?_
     rw [hE.out]
     first | exact ⟨A5, n5, p5, _, B9, rfl, RB, hp5, ON52.out, hO, hB7.out, RBz.out, HB⟩ | exact ⟨A5, n5, p5, _, rfl, B9, RB, hp5, ON52.out, hO, hB7.out, RBz.out, HB⟩
   · refine step_stAt rfl 33 _ _ rfl (cells := (crC (apC c mf M la mc ms) (.slice A5 n5 p5)).toArray) (crC (apC c mf M la mc ms) (.slice A5 n5 p5)) rfl rfl kO sizeCv (by show 0 + 45 ≤ 45; omega) (cr_one _) rfl ?_
     intro yq2 kO2 pO
     try replace hO := hO.put pO LBhOkO.out
     try replace RB := RB.putN pO NIRBkO.out
     try replace RBz := Lib.hid (Nat.le_trans RBz.out (Nat.le_of_eq pO.size.symm))
     try replace hE7 := Lib.hid (hE7.out.put pO LBhOkO.out)
     replace kC := kC.put pO (Nat.ne_of_lt LTkCkO.out)
     replace kM := kM.put pO (Nat.ne_of_lt LTkMkO.out)
     replace kL := kL.put pO (Nat.ne_of_gt LTkOkL.out)
     replace kA := kA.put pO (Nat.ne_of_gt LTkOkA.out)
     replace R0 := R0.putS pO NIR0kO.out
     replace Rm := Rm.putS pO NIRmkO.out
     replace R5 := R5.putS pO NIR5kO.out
     replace HB := pO.below _ _ HB LEkO.out
     clear kO
     have kO := kO2
     clear kO2 pO
     obtain ⟨yq, hyq⟩ : ∃ z, z = yq2 := ⟨_, rfl⟩
     subst hyq
     refine hKQ.out _ _ (⟨kC, kA⟩) (fun _ => ?_)
     clear hKQ KQ
     try simp only [Act.put]
     refine rr [2] ?_
     refine rc (fun KQ hKQ => ?_) AllReadyH.nil
     refine step_bsR rfl _ 38 rfl _ rfl _ (run_bsM2 { letM (follN c mf) 4 mf with y := true, i := la } (.slice none 0 0) yq) ?_
     rintro v yq2 ⟨rfl, kB, hX⟩
     have hO := OutL.one (B := yq.heap.size) kB (OwnE.nil _ _) (Nat.le_refl _)
     have LBhOkC := Lib.hid kC.lt
     have LBhOkM := Lib.hid kM.lt
     have LBhOkO := Lib.hid kO.lt
     have NIRBkO := NIR5kO
     have LBhOkL := Lib.hid kL.lt
     have RB := R5.below hX
     have hB7 := Lib.hid HB.size
     have RBz := Lib.hid hX.size
     clear kB
     replace HB := bt HB hX
     replace kC := kC.b hX
     replace kM := kM.b hX
     replace kO := kO.b hX
     replace kL := kL.b hX
     replace kA := kA.b hX
     replace R0 := R0.on hX hX.size
     replace Rm := Rm.on hX hX.size
     replace R5 := R5.on hX hX.size
     clear hX
     generalize yq.heap.size = B9 at *
     obtain ⟨yq, hyq⟩ : ∃ z, z = yq2 := ⟨_, rfl⟩
     subst hyq
     refine hKQ.out _ _ (⟨kC, kA⟩) (fun _ => ?_)
     clear hKQ KQ
     try simp only [Act.put, ka, kb, kc]
     refine tj 4 _ ?_
     try simp only [Act.put, ka, kb, kc]
     refine wpAnyH_done (by kernel_rfl) ?_ _
     simp only [Exit.then]
     refine (‹∀ (a : Act) (w : World), Code.wp _ Code.ret _ a w → _›) _ _ (wp_ret ?_)
     first | (show bodyPost _ _ _ Exit.ret _ _) | (simp only [Exit.then]; show bodyPost _ _ _ Exit.ret _ _) | (simp only [Exit.then, Exit.inBlock]; show bodyPost _ _ _ Exit.ret _ _)
     refine bodyPost_ret (res2 Tryz.results80 rfl rfl (aggC _) (sizeC _) (ldCv kO)) rfl ?_
     rw [hE.out]
     first | exact ⟨A5, n5, p5, _, B9, rfl, RB, hp5, ON52.out, hO, hB7.out, RBz.out, HB⟩ | exact ⟨A5, n5, p5, _, rfl, B9, RB, hp5, ON52.out, hO, hB7.out, RBz.out, HB⟩
 have hE := Lib.hid (hT1.out h2.out (by first | rfl | trivial) (by first | rfl | trivial))
 clear hT0 hT1 hT2
 have c_mf : y7.cell? ⟨gkM, 1, none⟩ = some (.int .i64 mf) := by rw [← hmf.out]; exact kM.cell 1
 go_wp2_with (first | go_skip | refine lo_Cj kC ?_ | refine lo_cLj kC ?_ | refine lo_cJj kC ?_ | refine lo_Mj kM ?_ | refine lo_mJj kM ?_ | refine lo_Cj kO ?_ | refine lo_cLj kO ?_ | refine lo_cJj kO ?_ | refine lo_Lj kL ?_ | refine lo_lJj kL ?_)
 refine (follow_any c A n p mf y7).mono ?_
 rintro e y8 ⟨rfl, hY⟩
 replace HB := bt HB hY
 replace kC := kC.b hY
 replace kM := kM.b hY
 replace kO := kO.b hY
 replace kL := kL.b hY
 replace R0 := R0.on hY hY.size
 replace Rm := Rm.on hY hY.size
 replace R5 := R5.on hY hY.size
 clear hY
 clear c_mf
 go_wp2_with (first | go_skip | refine st_C rfl _ _ rfl (follN c mf) A n p rfl rfl _ kC rfl ?_ | (first | refine lo_Cj kC ?_ | refine lo_cLj kC ?_ | refine lo_cJj kC ?_ | refine lo_Mj kM ?_ | refine lo_mJj kM ?_ | refine lo_Cj kO ?_ | refine lo_cLj kO ?_ | refine lo_cJj kO ?_ | refine lo_Lj kL ?_ | refine lo_lJj kL ?_))
 intro y9 kC2 pO
 replace kM := kM.put pO (Nat.ne_of_gt LTkCkM.out)
 replace kO := kO.put pO (Nat.ne_of_gt LTkCkO.out)
 replace kL := kL.put pO (Nat.ne_of_gt LTkCkL.out)
 replace R0 := R0.putS pO NIR0kC.out
 replace Rm := Rm.putS pO NIRmkC.out
 replace R5 := R5.putS pO NIR5kC.out
 replace HB := pO.below _ _ HB LEkC.out
 clear kC
 have kC := kC2
 clear kC2 pO
 have c_mf : y9.cell? ⟨gkM, 1, none⟩ = some (.int .i64 mf) := by rw [← hmf.out]; exact kM.cell 1
 go_wp2_with (first | go_skip | refine lo_Cj kC ?_ | refine lo_cLj kC ?_ | refine lo_cJj kC ?_ | refine lo_Mj kM ?_ | refine lo_mJj kM ?_ | refine lo_Cj kO ?_ | refine lo_cLj kO ?_ | refine lo_cJj kO ?_ | refine lo_Lj kL ?_ | refine lo_lJj kL ?_)
 clear c_mf
 refine (letter_any (follN c mf) A n p 4 mf y9).mono ?_
 rintro e y10 ⟨rfl, hY⟩
 replace HB := bt HB hY
 replace kC := kC.b hY
 replace kM := kM.b hY
 replace kO := kO.b hY
 replace kL := kL.b hY
 replace R0 := R0.on hY hY.size
 replace Rm := Rm.on hY hY.size
 replace R5 := R5.on hY hY.size
 clear hY
 have LTkCkA := Lib.hid kC.lt
 have LTkMkA := Lib.hid kM.lt
 have LTkOkA := Lib.hid kO.lt
 have LTkLkA := Lib.hid kL.lt
 have NIR0kA := Lib.hid (NotIn.of_rd R0 (Nat.le_refl _))
 have NIRmkA := Lib.hid (NotIn.of_rd Rm (Nat.le_refl _))
 have NIR5kA := Lib.hid (NotIn.of_rd R5 (Nat.le_refl _))
 have LEkA : Hid (w.heap.size ≤ y10.heap.size) := HB.size
 go_wp2_with (first | go_skip | refine al_M rfl rfl ?_ | (first | refine lo_Cj kC ?_ | refine lo_cLj kC ?_ | refine lo_cJj kC ?_ | refine lo_Mj kM ?_ | refine lo_mJj kM ?_ | refine lo_Cj kO ?_ | refine lo_cLj kO ?_ | refine lo_cJj kO ?_ | refine lo_Lj kL ?_ | refine lo_lJj kL ?_))
 intro y11 kA e11 s11
 clear s11
 replace kA : Blk _ _ _ (msC zM (.slice none 0 0)) := kA
 replace HB := bt HB e11
 replace kC := kC.b e11
 replace kM := kM.b e11
 replace kO := kO.b e11
 replace kL := kL.b e11
 replace R0 := R0.on e11 e11.size
 replace Rm := Rm.on e11 e11.size
 replace R5 := R5.on e11 e11.size
 clear e11
 generalize y10.heap.size = gkA at *
 go_wp2_with (first | go_skip | refine st_M rfl _ _ rfl (letM (follN c mf) 4 mf) none 0 0 rfl rfl _ kA rfl ?_ | (first | refine lo_Cj kC ?_ | refine lo_cLj kC ?_ | refine lo_cJj kC ?_ | refine lo_Mj kM ?_ | refine lo_mJj kM ?_ | refine lo_Cj kO ?_ | refine lo_cLj kO ?_ | refine lo_cJj kO ?_ | refine lo_Lj kL ?_ | refine lo_lJj kL ?_ | refine lo_Mj kA ?_ | refine lo_mJj kA ?_))
 intro y12 kA2 pO
 replace kC := kC.put pO (Nat.ne_of_lt LTkCkA.out)
 replace kM := kM.put pO (Nat.ne_of_lt LTkMkA.out)
 replace kO := kO.put pO (Nat.ne_of_lt LTkOkA.out)
 replace kL := kL.put pO (Nat.ne_of_lt LTkLkA.out)
 replace R0 := R0.putS pO NIR0kA.out
 replace Rm := Rm.putS pO NIRmkA.out
 replace R5 := R5.putS pO NIR5kA.out
 replace HB := pO.below _ _ HB LEkA.out
 clear kA
 have kA := kA2
 clear kA2 pO
 go_upto_region 9 with (first | go_skip | refine lo_Cj kC ?_ | refine lo_cLj kC ?_ | refine lo_cJj kC ?_ | refine lo_Mj kM ?_ | refine lo_mJj kM ?_ | refine lo_Cj kO ?_ | refine lo_cLj kO ?_ | refine lo_cJj kO ?_ | refine lo_Lj kL ?_ | refine lo_lJj kL ?_ | refine lo_Mj kA ?_ | refine lo_mJj kA ?_)
 refine wp_region_held_drew (S := fun wq => At wq w.heap.size 8 (lgC c.lg (.slice A n p)) ∧ wq.cell? ⟨gkM, 4, none⟩ = some (.int .i64 mi)) (by kernel_rfl) ?s_tkp9 (fun hHeld => ?_)
 case s_tkp9 => exact ⟨at_cL (c := follN c mf) kC, by rw [← hmi.out]; exact kM.cell 4⟩
 have hD := (Below.refl y12.heap.size y12).drew
 replace HB := bt HB hD
 replace kC := kC.b hD
 replace kM := kM.b hD
 replace kO := kO.b hD
 replace kL := kL.b hD
 replace kA := kA.b hD
 replace R0 := R0.on hD hD.size
 replace Rm := Rm.on hD hD.size
 replace R5 := R5.on hD hD.size
 clear hD
 generalize y12.drew = y13 at *
 refine tj 0 _ ?_
 try simp only [Act.put, ka, kb, kc]
 refine tj 1 _ ?_
 try simp only [Act.put, ka, kb, kc]
 refine tj 2 _ ?_
 try simp only [Act.put, ka, kb, kc]
 refine tj 3 _ ?_
 try simp only [Act.put, ka, kb, kc]
 refine tj 4 ((lgV c.lg (.slice A n p))) ?_ (hy := fun wq hSw => run_ldAt rfl rfl hSw.1 (aggL _) (sizeL _))
 try simp only [Act.put, ka, kb, kc]
 refine rr [5] ?_
 refine rc (fun KQ hKQ => ?_) AllReadyH.nil
 go_simp
 have CC := enti.last_any c.lg A n p y13 hlen.out HF.out
 rw [hlc.out] at CC
 refine (CC).mono ?_
 rintro e y14 ⟨rfl, hY⟩
 replace HB := bt HB hY
 replace kC := kC.b hY
 replace kM := kM.b hY
 replace kO := kO.b hY
 replace kL := kL.b hY
 replace kA := kA.b hY
 replace R0 := R0.on hY hY.size
 replace Rm := Rm.on hY hY.size
 replace R5 := R5.on hY hY.size
 clear hY
 clear CC
 go_wp2_with fail
 refine hKQ.out _ _ (⟨at_cL (c := follN c mf) kC, by rw [← hmi.out]; exact kM.cell 4⟩) (fun _ => ?_)
 clear hKQ KQ
 try simp only [Act.put, ka, kb, kc]
 refine tj 6 ((.int .i64 a1)) ?_ (hy := fun wq hSw => rb_minz rfl rfl rfl rfl ha1.out)
 try simp only [Act.put, ka, kb, kc]
 refine tj 7 ((.int .i64 a2)) ?_ (hy := fun wq hSw => rb_maxz rfl rfl rfl rfl ha2.out)
 try simp only [Act.put, ka, kb, kc]
 refine tj 8 _ ?_
 try simp only [Act.put, ka, kb, kc]
 refine rr [9] ?_
 refine rc (fun KQ hKQ => ?_) AllReadyH.nil
 have df := fun i => kA.frozen i
 have cR : _ = some _ := kA.cell 4
 go_simp
 clear df cR
 have kA2 : Blk 49 _ gkA (msC { letM (follN c mf) 4 mf with i := a2 } (.slice none 0 0)) := kA.set_ 4 (.int .i64 a2)
 have pO := put_set y14 gkA (4) (.int .i64 a2)
 generalize (y14.setCell ⟨gkA, 4, none⟩ (.int .i64 a2)) = y15 at *
 replace kC := kC.put pO (Nat.ne_of_lt LTkCkA.out)
 replace kM := kM.put pO (Nat.ne_of_lt LTkMkA.out)
 replace kO := kO.put pO (Nat.ne_of_lt LTkOkA.out)
 replace kL := kL.put pO (Nat.ne_of_lt LTkLkA.out)
 replace R0 := R0.putS pO NIR0kA.out
 replace Rm := Rm.putS pO NIRmkA.out
 replace R5 := R5.putS pO NIR5kA.out
 replace HB := pO.below _ _ HB LEkA.out
 clear kA
 have kA := kA2
 clear kA2 pO
 refine hKQ.out _ _ (⟨at_cL (c := follN c mf) kC, by rw [← hmi.out]; exact kM.cell 4⟩) (fun _ => ?_)
 clear hKQ KQ
 try simp only [Act.put]
 refine wpAnyH_done (by kernel_rfl) ?_ _
 go_upto_region 10 with (first | go_skip | refine lo_Cj kC ?_ | refine lo_cLj kC ?_ | refine lo_cJj kC ?_ | refine lo_Mj kM ?_ | refine lo_mJj kM ?_ | refine lo_Cj kO ?_ | refine lo_cLj kO ?_ | refine lo_cJj kO ?_ | refine lo_Lj kL ?_ | refine lo_lJj kL ?_ | refine lo_Mj kA ?_ | refine lo_mJj kA ?_)
 refine wp_region_held_drew (S := fun wq => Blk 33 wq w.heap.size (crC (follN c mf) (.slice A n p)) ∧ Blk 49 wq gkA (msC { letM (follN c mf) 4 mf with i := a2 } (.slice none 0 0))) (by kernel_rfl) ?s_tkp10 (fun hHeld => ?_)
 case s_tkp10 => exact ⟨kC, kA⟩
 have hD := (Below.refl y15.heap.size y15).drew
 replace HB := bt HB hD
 replace kC := kC.b hD
 replace kM := kM.b hD
 replace kO := kO.b hD
 replace kL := kL.b hD
 replace kA := kA.b hD
 replace R0 := R0.on hD hD.size
 replace Rm := Rm.on hD hD.size
 replace R5 := R5.on hD hD.size
 clear hD
 generalize y15.drew = yq at *
 refine tj 0 _ ?_ (hy := fun wq hSw => rld_C rfl rfl (And.left hSw))
 try simp only [Act.put, ka, kb, kc]
 refine tj 1 _ ?_ (hy := fun wq hSw => rld_M rfl rfl (And.right hSw))
 try simp only [Act.put, ka, kb, kc]
 refine rr [2, 3] ?_
 refine rc (fun KQ hKQ => ?_) (rc (fun KQ hKQ => ?_) (AllReadyH.nil))
 · refine step_bsR rfl _ 38 rfl _ rfl _ (run_bsM2 { letM (follN c mf) 4 mf with i := a2 } (.slice none 0 0) yq) ?_
   rintro v yq2 ⟨rfl, kB, hX⟩
   have hO := OutL.one (B := yq.heap.size) kB (OwnE.nil _ _) (Nat.le_refl _)
   have LBhOkC := Lib.hid kC.lt
   have LBhOkM := Lib.hid kM.lt
   have LBhOkO := Lib.hid kO.lt
   have NIRBkO := NIR0kO
   have LBhOkL := Lib.hid kL.lt
   have RB := R0.below hX
   have hB7 := Lib.hid HB.size
   have RBz := Lib.hid hX.size
   clear kB
   replace HB := bt HB hX
   replace kC := kC.b hX
   replace kM := kM.b hX
   replace kO := kO.b hX
   replace kL := kL.b hX
   replace kA := kA.b hX
   replace R0 := R0.on hX hX.size
   replace Rm := Rm.on hX hX.size
   replace R5 := R5.on hX hX.size
   clear hX
   generalize yq.heap.size = B9 at *
   obtain ⟨yq, hyq⟩ : ∃ z, z = yq2 := ⟨_, rfl⟩
   subst hyq
   refine hKQ.out _ _ (⟨kC, kA⟩) (fun _ => ?_)
   clear hKQ KQ
   try simp only [Act.put, ka, kb, kc]
   refine rr [3] ?_
   refine rc (fun KQ hKQ => ?_) AllReadyH.nil
   refine step_stAt rfl 33 _ _ rfl (cells := (crC (follN c mf) (.slice A n p)).toArray) (crC (follN c mf) (.slice A n p)) rfl rfl kO sizeCv (by show 0 + 45 ≤ 45; omega) (cr_one _) rfl ?_
   intro yq2 kO2 pO
   try replace hO := hO.put pO LBhOkO.out
   try replace RB := RB.putN pO NIRBkO.out
   try replace RBz := Lib.hid (Nat.le_trans RBz.out (Nat.le_of_eq pO.size.symm))
   try replace hE7 := Lib.hid (hE7.out.put pO LBhOkO.out)
   replace kC := kC.put pO (Nat.ne_of_lt LTkCkO.out)
   replace kM := kM.put pO (Nat.ne_of_lt LTkMkO.out)
   replace kL := kL.put pO (Nat.ne_of_gt LTkOkL.out)
   replace kA := kA.put pO (Nat.ne_of_gt LTkOkA.out)
   replace R0 := R0.putS pO NIR0kO.out
   replace Rm := Rm.putS pO NIRmkO.out
   replace R5 := R5.putS pO NIR5kO.out
   replace HB := pO.below _ _ HB LEkO.out
   clear kO
   have kO := kO2
   clear kO2 pO
   obtain ⟨yq, hyq⟩ : ∃ z, z = yq2 := ⟨_, rfl⟩
   subst hyq
   refine hKQ.out _ _ (⟨kC, kA⟩) (fun _ => ?_)
   clear hKQ KQ
   try simp only [Act.put]
   refine tj 4 _ ?_
   try simp only [Act.put, ka, kb, kc]
   refine wpAnyH_done (by kernel_rfl) ?_ _
   simp only [Exit.then]
   refine (‹∀ (a : Act) (w : World), Code.wp _ Code.ret _ a w → _›) _ _ (wp_ret ?_)
   first | (show bodyPost _ _ _ Exit.ret _ _) | (simp only [Exit.then]; show bodyPost _ _ _ Exit.ret _ _) | (simp only [Exit.then, Exit.inBlock]; show bodyPost _ _ _ Exit.ret _ _)
   refine bodyPost_ret (res2 Tryz.results80 rfl rfl (aggC _) (sizeC _) (ldCv kO)) rfl ?_
   rw [hE.out]
   first | exact ⟨A, n, p, _, B9, rfl, RB, hp, OldNew.refl _ _ _, hO, hB7.out, RBz.out, HB⟩ | exact ⟨A, n, p, _, rfl, B9, RB, hp, OldNew.refl _ _ _, hO, hB7.out, RBz.out, HB⟩
 · refine step_stAt rfl 33 _ _ rfl (cells := (crC (follN c mf) (.slice A n p)).toArray) (crC (follN c mf) (.slice A n p)) rfl rfl kO sizeCv (by show 0 + 45 ≤ 45; omega) (cr_one _) rfl ?_
   intro yq2 kO2 pO
   try replace hO := hO.put pO LBhOkO.out
   try replace RB := RB.putN pO NIRBkO.out
   try replace RBz := Lib.hid (Nat.le_trans RBz.out (Nat.le_of_eq pO.size.symm))
   try replace hE7 := Lib.hid (hE7.out.put pO LBhOkO.out)
   replace kC := kC.put pO (Nat.ne_of_lt LTkCkO.out)
   replace kM := kM.put pO (Nat.ne_of_lt LTkMkO.out)
   replace kL := kL.put pO (Nat.ne_of_gt LTkOkL.out)
   replace kA := kA.put pO (Nat.ne_of_gt LTkOkA.out)
   replace R0 := R0.putS pO NIR0kO.out
   replace Rm := Rm.putS pO NIRmkO.out
   replace R5 := R5.putS pO NIR5kO.out
   replace HB := pO.below _ _ HB LEkO.out
   clear kO
   have kO := kO2
   clear kO2 pO
   obtain ⟨yq, hyq⟩ : ∃ z, z = yq2 := ⟨_, rfl⟩
   subst hyq
   refine hKQ.out _ _ (⟨kC, kA⟩) (fun _ => ?_)
   clear hKQ KQ
   try simp only [Act.put]
   refine rr [2] ?_
   refine rc (fun KQ hKQ => ?_) AllReadyH.nil
   refine step_bsR rfl _ 38 rfl _ rfl _ (run_bsM2 { letM (follN c mf) 4 mf with i := a2 } (.slice none 0 0) yq) ?_
   rintro v yq2 ⟨rfl, kB, hX⟩
   have hO := OutL.one (B := yq.heap.size) kB (OwnE.nil _ _) (Nat.le_refl _)
   have LBhOkC := Lib.hid kC.lt
   have LBhOkM := Lib.hid kM.lt
   have LBhOkO := Lib.hid kO.lt
   have NIRBkO := NIR0kO
   have LBhOkL := Lib.hid kL.lt
   have RB := R0.below hX
   have hB7 := Lib.hid HB.size
   have RBz := Lib.hid hX.size
   clear kB
   replace HB := bt HB hX
   replace kC := kC.b hX
   replace kM := kM.b hX
   replace kO := kO.b hX
   replace kL := kL.b hX
   replace kA := kA.b hX
   replace R0 := R0.on hX hX.size
   replace Rm := Rm.on hX hX.size
   replace R5 := R5.on hX hX.size
   clear hX
   generalize yq.heap.size = B9 at *
   obtain ⟨yq, hyq⟩ : ∃ z, z = yq2 := ⟨_, rfl⟩
   subst hyq
   refine hKQ.out _ _ (⟨kC, kA⟩) (fun _ => ?_)
   clear hKQ KQ
   try simp only [Act.put, ka, kb, kc]
   refine tj 4 _ ?_
   try simp only [Act.put, ka, kb, kc]
   refine wpAnyH_done (by kernel_rfl) ?_ _
   simp only [Exit.then]
   refine (‹∀ (a : Act) (w : World), Code.wp _ Code.ret _ a w → _›) _ _ (wp_ret ?_)
   first | (show bodyPost _ _ _ Exit.ret _ _) | (simp only [Exit.then]; show bodyPost _ _ _ Exit.ret _ _) | (simp only [Exit.then, Exit.inBlock]; show bodyPost _ _ _ Exit.ret _ _)
   refine bodyPost_ret (res2 Tryz.results80 rfl rfl (aggC _) (sizeC _) (ldCv kO)) rfl ?_
   rw [hE.out]
   first | exact ⟨A, n, p, _, B9, rfl, RB, hp, OldNew.refl _ _ _, hO, hB7.out, RBz.out, HB⟩ | exact ⟨A, n, p, _, rfl, B9, RB, hp, OldNew.refl _ _ _, hO, hB7.out, RBz.out, HB⟩
end Go.Proofs.YtegnfkbmlalkeaaGreat.cor
