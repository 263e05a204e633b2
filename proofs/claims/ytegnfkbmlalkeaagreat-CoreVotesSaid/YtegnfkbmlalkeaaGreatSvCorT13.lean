/- The landed core: takeLend. Conditions: those that the theorem names. -/
import Derived.Deep.RegionHeld3
import Derived.Deep.Cut
import Derived.Lib.Hide
import Derived.Test.YtegnfkbmlalkeaaGreatSvJ2
import Derived.Test.YtegnfkbmlalkeaaGreatSvJ3
import Derived.Test.YtegnfkbmlalkeaaGreatSvJ4
import Derived.Test.YtegnfkbmlalkeaaGreatSvEntK
import Derived.Test.YtegnfkbmlalkeaaGreatSvJ0
import Derived.Test.YtegnfkbmlalkeaaGreatSvKitLg
namespace Go.Proofs.YtegnfkbmlalkeaaGreat.cor
open Go Go.RowKit Go.Proofs.YtegnfkbmlalkeaaGreat.kit Go.Proofs.YtegnfkbmlalkeaaGreat.nums Go.Proofs.YtegnfkbmlalkeaaGreat.cf Go.Proofs.YtegnfkbmlalkeaaGreat.lg Go.Proofs.YtegnfkbmlalkeaaGreat.cr Go.Proofs.YtegnfkbmlalkeaaGreat.se
set_option linter.unusedVariables false
set_option maxHeartbeats 4000000 in
set_option maxRecDepth 10000 in
theorem takeLend_any (c : CoL) (A : Option Addr) (n p : Nat) (m : MsL) (Am : Option Addr) (nm pm : Nat) (w : World) (B : Nat) (hR : RdE w B A n c.lg.es) (hB : B ≤ w.heap.size) (hp : n ≤ p) (Bm : Nat) (hm : RdE w Bm Am nm m.es) (hBm : Bm ≤ w.heap.size) (hpm : nm ≤ pm) (hf : Fit c.lg) (hok : ∀ x ∈ m.es, x.j.ok) (hsz : c.lg.es.length + m.es.length ≤ 1000000) (hk6 : m.k = 6) : Calls Tryz.prog 83 #[crV c (.slice A n p), msV m (.slice Am nm pm)] w fun e w' => ∃ A' n' p', e = .returned (crV (tlF c m) (.slice A' n' p')) ∧ RdE w' w'.heap.size A' n' (tlF c m).lg.es ∧ n' ≤ p' ∧ OldNew w.heap.size A n A' n' ∧ Below w.heap.size w w' := by
 have HF := Lib.hid hf
 have HOk := Lib.hid hok
 have Rm := hm.more hBm
 have hmlen := Lib.hid hm.len
 have hlen := Lib.hid hR.len
 have hsz2 := Lib.hid hsz
 clear hf hok hm hBm hsz
 have hT0 := Lib.hid (fun h => tl_no (c := c) (m := m) hk6 h)
 have hT1 := Lib.hid (fun a b d e f => tl_yes (c := c) (m := m) hk6 a b d e f)
 obtain ⟨mi, hmi⟩ : ∃ q, m.i = q := ⟨_, rfl⟩
 obtain ⟨ml, hml⟩ : ∃ q, m.lt = q := ⟨_, rfl⟩
 obtain ⟨ro, hro⟩ : ∃ q, c.ro = q := ⟨_, rfl⟩
 obtain ⟨cm, hcm⟩ : ∃ q, c.cm = q := ⟨_, rfl⟩
 obtain ⟨tb, htb⟩ : ∃ q, tkB c m.es = q := ⟨_, rfl⟩
 have hMl0 := merge_lenF c.lg m.i m.lt m.es
 obtain ⟨M, hM⟩ : ∃ q, (mergeF c.lg m.i m.lt m.es).1 = q := ⟨_, rfl⟩
 obtain ⟨la, hla⟩ : ∃ q, (mergeF c.lg m.i m.lt m.es).2.1 = q := ⟨_, rfl⟩
 obtain ⟨okb, hokb⟩ : ∃ q, (mergeF c.lg m.i m.lt m.es).2.2 = q := ⟨_, rfl⟩
 obtain ⟨bb, hbb⟩ : ∃ q, becB M = q := ⟨_, rfl⟩
 rw [hM] at hMl0
 have hMl : Hid (M.es.length ≤ 1000000) := by show _ ≤ _; have := hsz2.out; omega
 have hMf : Hid (becB M = true → Fit M) := fun h => by
   unfold becB at h
   rw [Bool.and_eq_true] at h
   exact fit_may h.1 hMl.out
 obtain ⟨lM, hlM⟩ : ∃ q, lastF M = q := ⟨_, rfl⟩
 obtain ⟨tM, htM⟩ : ∃ q, (termF M lM).1 = q := ⟨_, rfl⟩
 obtain ⟨nb, hnb⟩ : ∃ q, newerF c.lg lM tM = q := ⟨_, rfl⟩
 rw [hro, htb, hokb, hM, hbb, hlM, htM, hnb] at hT0 hT1
 obtain ⟨nc, hnc⟩ : ∃ q, min cm lM = q := ⟨_, rfl⟩
 have hLe : Hid (leC c M = { c with lg := M, cm := nc }) := by show _ = _; unfold leC; rw [hcm, hlM, hnc]
 clear hk6 hMl0
 replace hmi := Lib.hid hmi
 replace hml := Lib.hid hml
 replace hro := Lib.hid hro
 replace hcm := Lib.hid hcm
 replace htb := Lib.hid htb
 replace hM := Lib.hid hM
 replace hla := Lib.hid hla
 replace hokb := Lib.hid hokb
 replace hbb := Lib.hid hbb
 replace hlM := Lib.hid hlM
 replace htM := Lib.hid htM
 replace hnb := Lib.hid hnb
 replace hnc := Lib.hid hnc
 have R0 := hR.more hB
 clear hR hB
 go_enter Tryz.func83, Tryz.ntmps83
 have NIR0kC := Lib.hid (NotIn.of_rd R0 (Nat.le_refl _))
 have NIRmkC := Lib.hid (NotIn.of_rd Rm (Nat.le_refl _))
 have LEkC : Hid (w.heap.size ≤ w.heap.size) := Nat.le_refl _
 go_wp2_with (first | go_skip | refine box_C rfl _ rfl c (.slice A n p) rfl ?_ | fail)
 intro y1 kC e1 s1
 clear s1
 have HB := e1
 replace R0 := R0.on e1 e1.size
 replace Rm := Rm.on e1 e1.size
 clear e1
 have LTkCkM := Lib.hid kC.lt
 go_wp2_with (first | go_skip | refine box_M rfl _ rfl m (.slice Am nm pm) rfl ?_ | (first | refine lo_Cj kC ?_ | refine lo_cLj kC ?_ | refine lo_cJj kC ?_))
 intro y2 kM e2 s2
 clear s2
 replace HB := bt HB e2
 replace kC := kC.b e2
 replace R0 := R0.on e2 e2.size
 replace Rm := Rm.on e2 e2.size
 clear e2
 generalize y1.heap.size = gkM at *
 have LTkCkO := Lib.hid kC.lt
 have LTkMkO := Lib.hid kM.lt
 have NIR0kO := Lib.hid (NotIn.of_rd R0 (Nat.le_refl _))
 have NIRmkO := Lib.hid (NotIn.of_rd Rm (Nat.le_refl _))
 have LEkO : Hid (w.heap.size ≤ y2.heap.size) := HB.size
 go_wp2_with (first | go_skip | refine al_C rfl rfl ?_ | (first | refine lo_Cj kC ?_ | refine lo_cLj kC ?_ | refine lo_cJj kC ?_ | refine lo_Mj kM ?_ | refine lo_mJj kM ?_))
 intro y3 kO e3 s3
 clear s3
 replace kO : Blk _ _ _ (crC zC (.slice none 0 0)) := kO
 replace HB := bt HB e3
 replace kC := kC.b e3
 replace kM := kM.b e3
 replace R0 := R0.on e3 e3.size
 replace Rm := Rm.on e3 e3.size
 clear e3
 generalize y2.heap.size = gkO at *
 have c_ro : y3.cell? ⟨w.heap.size, 1, none⟩ = some (.int .i64 ro) := by rw [← hro.out]; exact kC.cell 1
 have ce : y3.cell? ⟨gkM, 9, none⟩ = some (.slice Am nm pm) := by exact kM.cell 9
 by_cases h2 : ro = 2
 · skip
   have br : (ro == 2) = true := by simp [h2]
   replace h2 := Lib.hid h2
   have hE := Lib.hid (hT0.out (.inl h2.out))
   go_wp2_with (first | go_skip | refine st_C rfl _ _ rfl c A n p rfl rfl _ kO rfl ?_ | (first | refine lo_Cj kC ?_ | refine lo_cLj kC ?_ | refine lo_cJj kC ?_ | refine lo_Mj kM ?_ | refine lo_mJj kM ?_ | refine lo_Cj kO ?_ | refine lo_cLj kO ?_ | refine lo_cJj kO ?_))
   intro y4 kO2 pO
   replace kC := kC.put pO (Nat.ne_of_lt LTkCkO.out)
   replace kM := kM.put pO (Nat.ne_of_lt LTkMkO.out)
   replace R0 := R0.putS pO NIR0kO.out
   replace Rm := Rm.putS pO NIRmkO.out
   replace HB := pO.below _ _ HB LEkO.out
   clear kO
   have kO := kO2
   clear kO2 pO
   try clear c_ro ce
   go_wp2_with (first | go_skip | refine lo_Cj kC ?_ | refine lo_cLj kC ?_ | refine lo_cJj kC ?_ | refine lo_Mj kM ?_ | refine lo_mJj kM ?_ | refine lo_Cj kO ?_ | refine lo_cLj kO ?_ | refine lo_cJj kO ?_)
   (try simp only [Exit.inBlock, Exit.then])
   refine bodyPost_ret (res1 Tryz.results83 rfl (aggC _) (sizeC _) (ldCv kO)) rfl ?_
   rw [hE.out]
   exact ⟨A, n, p, rfl, R0, hp, OldNew.refl _ _ _, HB⟩
 have br : (ro == 2) = false := by simp [h2]
 replace h2 := Lib.hid h2
 go_wp2_with (first | go_skip | refine lo_Cj kC ?_ | refine lo_cLj kC ?_ | refine lo_cJj kC ?_ | refine lo_Mj kM ?_ | refine lo_mJj kM ?_ | refine lo_Cj kO ?_ | refine lo_cLj kO ?_ | refine lo_cJj kO ?_)
 have CC := mayTake_any c A n p m.es Am nm pm y3 y3.heap.size Rm (Nat.le_refl _) (by have := hsz2.out; have := hmlen.out; omega) HOk.out
 rw [htb.out] at CC
 refine (CC).mono ?_
 rintro e y4 ⟨rfl, hY⟩
 replace HB := bt HB hY
 replace kC := kC.b hY
 replace kM := kM.b hY
 replace kO := kO.b hY
 replace R0 := R0.on hY hY.size
 replace Rm := Rm.on hY hY.size
 clear hY
 clear CC c_ro ce
 rcases tb with _ | _
 · skip
   have hE := Lib.hid (hT0.out (.inr (.inl (by first | rfl | trivial))))
   go_wp2_with (first | go_skip | refine st_C rfl _ _ rfl c A n p rfl rfl _ kO rfl ?_ | (first | refine lo_Cj kC ?_ | refine lo_cLj kC ?_ | refine lo_cJj kC ?_ | refine lo_Mj kM ?_ | refine lo_mJj kM ?_ | refine lo_Cj kO ?_ | refine lo_cLj kO ?_ | refine lo_cJj kO ?_))
   intro y5 kO2 pO
   replace kC := kC.put pO (Nat.ne_of_lt LTkCkO.out)
   replace kM := kM.put pO (Nat.ne_of_lt LTkMkO.out)
   replace R0 := R0.putS pO NIR0kO.out
   replace Rm := Rm.putS pO NIRmkO.out
   replace HB := pO.below _ _ HB LEkO.out
   clear kO
   have kO := kO2
   clear kO2 pO
   try clear c_ro ce
   go_wp2_with (first | go_skip | refine lo_Cj kC ?_ | refine lo_cLj kC ?_ | refine lo_cJj kC ?_ | refine lo_Mj kM ?_ | refine lo_mJj kM ?_ | refine lo_Cj kO ?_ | refine lo_cLj kO ?_ | refine lo_cJj kO ?_)
   (try simp only [Exit.inBlock, Exit.then])
   refine bodyPost_ret (res1 Tryz.results83 rfl (aggC _) (sizeC _) (ldCv kO)) rfl ?_
   rw [hE.out]
   exact ⟨A, n, p, rfl, R0, hp, OldNew.refl _ _ _, HB⟩
 have ci : y4.cell? ⟨gkM, 4, none⟩ = some (.int .i64 mi) := by rw [← hmi.out]; exact kM.cell 4
 have ct : y4.cell? ⟨gkM, 5, none⟩ = some (.int .i64 ml) := by rw [← hml.out]; exact kM.cell 5
 have ce : y4.cell? ⟨gkM, 9, none⟩ = some (.slice Am nm pm) := by exact kM.cell 9
 go_wp2_with (first | go_skip | refine lo_Cj kC ?_ | refine lo_cLj kC ?_ | refine lo_cJj kC ?_ | refine lo_Mj kM ?_ | refine lo_mJj kM ?_ | refine lo_Cj kO ?_ | refine lo_cLj kO ?_ | refine lo_cJj kO ?_)
 clear ci ct ce
 have CC := enti.merge_any c.lg A n p m.i m.lt Am nm pm m.es y4 y4.heap.size R0 (Nat.le_refl _) hp HF.out y4.heap.size Rm (Nat.le_refl _) hpm (by have := hsz2.out; have := hmlen.out; omega)
 rw [hM.out, hla.out, hokb.out, hmi.out, hml.out] at CC
 refine CC.mono ?_
 rintro e y5 ⟨A5, n5, p5, rfl, hn5, hO, hY⟩
 clear CC
 replace hn5 := Lib.hid hn5
 have NIR5kC := Lib.hid (NotIn.of_own hO kC.lt)
 have NIR5kO := Lib.hid (NotIn.of_own hO kO.lt)
 have ON52 : Hid (OldNew w.heap.size A n A5 n5) := OldNew.own hO HB.size
 have R5 := hO.cap.2.2.2
 have hp5 := hO.cap.2.1
 clear hO
 replace HB := bt HB hY
 replace kC := kC.b hY
 replace kM := kM.b hY
 replace kO := kO.b hY
 replace R0 := R0.on hY hY.size
 replace Rm := Rm.on hY hY.size
 clear hY
 have LTkCkL := Lib.hid kC.lt
 have LTkMkL := Lib.hid kM.lt
 have LTkOkL := Lib.hid kO.lt
 have NIR0kL := Lib.hid (NotIn.of_rd R0 (Nat.le_refl _))
 have NIRmkL := Lib.hid (NotIn.of_rd Rm (Nat.le_refl _))
 have NIR5kL := Lib.hid (NotIn.of_rd R5 (Nat.le_refl _))
 have LEkL : Hid (w.heap.size ≤ y5.heap.size) := HB.size
 go_wp2_with (first | go_skip | refine al_L rfl rfl ?_ | (first | refine lo_Cj kC ?_ | refine lo_cLj kC ?_ | refine lo_cJj kC ?_ | refine lo_Mj kM ?_ | refine lo_mJj kM ?_ | refine lo_Cj kO ?_ | refine lo_cLj kO ?_ | refine lo_cJj kO ?_))
 intro y6 kL e6 s6
 clear s6
 replace kL : Blk _ _ _ (lgC zL (.slice none 0 0)) := kL
 replace HB := bt HB e6
 replace kC := kC.b e6
 replace kM := kM.b e6
 replace kO := kO.b e6
 replace R0 := R0.on e6 e6.size
 replace Rm := Rm.on e6 e6.size
 replace R5 := R5.on e6 e6.size
 clear e6
 generalize y5.heap.size = gkL at *
 go_wp2_with (first | go_skip | refine st_L rfl _ _ rfl M A5 n5 p5 rfl rfl _ kL rfl ?_ | (first | refine lo_Cj kC ?_ | refine lo_cLj kC ?_ | refine lo_cJj kC ?_ | refine lo_Mj kM ?_ | refine lo_mJj kM ?_ | refine lo_Cj kO ?_ | refine lo_cLj kO ?_ | refine lo_cJj kO ?_ | refine lo_Lj kL ?_ | refine lo_lJj kL ?_))
 intro y7 kL2 pO
 replace kC := kC.put pO (Nat.ne_of_lt LTkCkL.out)
 replace kM := kM.put pO (Nat.ne_of_lt LTkMkL.out)
 replace kO := kO.put pO (Nat.ne_of_lt LTkOkL.out)
 replace R0 := R0.putS pO NIR0kL.out
 replace Rm := Rm.putS pO NIRmkL.out
 replace R5 := R5.putS pO NIR5kL.out
 replace HB := pO.below _ _ HB LEkL.out
 clear kL
 have kL := kL2
 clear kL2 pO
 have hl5 := Lib.hid R5.len
 rcases okb with _ | _
 · skip
   go_upto_region 4 with (first | go_skip | refine lo_Cj kC ?_ | refine lo_cLj kC ?_ | refine lo_cJj kC ?_ | refine lo_Mj kM ?_ | refine lo_mJj kM ?_ | refine lo_Cj kO ?_ | refine lo_cLj kO ?_ | refine lo_cJj kO ?_ | refine lo_Lj kL ?_ | refine lo_lJj kL ?_)
   refine wp_region_held_drew (S := fun wq => Blk 30 wq gkL (lgC M (.slice A5 n5 p5)) ∧ At wq w.heap.size 8 (lgC c.lg (.slice A n p))) (by kernel_rfl) ?s_tkl4a (fun hHeld => ?_)
   case s_tkl4a => exact ⟨kL, at_cL kC⟩
   have hD := (Below.refl y7.heap.size y7).drew
   replace HB := bt HB hD
   replace kC := kC.b hD
   replace kM := kM.b hD
   replace kO := kO.b hD
   replace kL := kL.b hD
   replace R0 := R0.on hD hD.size
   replace Rm := Rm.on hD hD.size
   replace R5 := R5.on hD hD.size
   clear hD
   generalize y7.drew = y8 at *
   refine tj 0 _ ?_
   try simp only [Act.put, ka, kb, kc]
   refine tj 1 _ ?_
   try simp only [Act.put, ka, kb, kc]
   refine tj 2 _ ?_
   try simp only [Act.put, ka, kb, kc]
   refine tv 3 ?_
   try simp only [Act.put, ka, kb, kc]
   refine tv 4 ?_
   try simp only [Act.put, ka, kb, kc]
   refine tv 5 ?_
   try simp only [Act.put, ka, kb, kc]
   refine tj 6 _ ?_
   try simp only [Act.put, ka, kb, kc]
   refine tj 7 _ ?_
   try simp only [Act.put, ka, kb, kc]
   refine tv 8 ?_
   try simp only [Act.put, ka, kb, kc]
   refine tv 9 ?_
   try simp only [Act.put, ka, kb, kc]
   refine tv 10 ?_
   try simp only [Act.put, ka, kb, kc]
   refine tv 11 ?_
   try simp only [Act.put, ka, kb, kc]
   refine tv 12 ?_
   try simp only [Act.put, ka, kb, kc]
   refine tv 13 ?_
   try simp only [Act.put, ka, kb, kc]
   refine tv 14 ?_
   try simp only [Act.put, ka, kb, kc]
   refine tv 15 ?_
   try simp only [Act.put, ka, kb, kc]
   refine tj 16 _ ?_
   try simp only [Act.put, ka, kb, kc]
   refine wpAnyH_done (by kernel_rfl) ?_ _
   have hE := Lib.hid (hT0.out (.inr (.inr (.inl (by first | rfl | trivial)))))
   go_wp2_with (first | go_skip | refine st_C rfl _ _ rfl c A n p rfl rfl _ kO rfl ?_ | (first | refine lo_Cj kC ?_ | refine lo_cLj kC ?_ | refine lo_cJj kC ?_ | refine lo_Mj kM ?_ | refine lo_mJj kM ?_ | refine lo_Cj kO ?_ | refine lo_cLj kO ?_ | refine lo_cJj kO ?_ | refine lo_Lj kL ?_ | refine lo_lJj kL ?_))
   intro y9 kO2 pO
   replace kC := kC.put pO (Nat.ne_of_lt LTkCkO.out)
   replace kM := kM.put pO (Nat.ne_of_lt LTkMkO.out)
   replace kL := kL.put pO (Nat.ne_of_gt LTkOkL.out)
   replace R0 := R0.putS pO NIR0kO.out
   replace Rm := Rm.putS pO NIRmkO.out
   replace R5 := R5.putS pO NIR5kO.out
   replace HB := pO.below _ _ HB LEkO.out
   clear kO
   have kO := kO2
   clear kO2 pO
   try clear c_ro ce
   go_wp2_with (first | go_skip | refine lo_Cj kC ?_ | refine lo_cLj kC ?_ | refine lo_cJj kC ?_ | refine lo_Mj kM ?_ | refine lo_mJj kM ?_ | refine lo_Cj kO ?_ | refine lo_cLj kO ?_ | refine lo_cJj kO ?_ | refine lo_Lj kL ?_ | refine lo_lJj kL ?_)
   (try simp only [Exit.inBlock, Exit.then])
   refine bodyPost_ret (res1 Tryz.results83 rfl (aggC _) (sizeC _) (ldCv kO)) rfl ?_
   rw [hE.out]
   exact ⟨A, n, p, rfl, R0, hp, OldNew.refl _ _ _, HB⟩
 rcases bb with _ | _
 · skip
   go_upto_region 4 with (first | go_skip | refine lo_Cj kC ?_ | refine lo_cLj kC ?_ | refine lo_cJj kC ?_ | refine lo_Mj kM ?_ | refine lo_mJj kM ?_ | refine lo_Cj kO ?_ | refine lo_cLj kO ?_ | refine lo_cJj kO ?_ | refine lo_Lj kL ?_ | refine lo_lJj kL ?_)
   refine wp_region_held_drew (S := fun wq => Blk 30 wq gkL (lgC M (.slice A5 n5 p5)) ∧ At wq w.heap.size 8 (lgC c.lg (.slice A n p))) (by kernel_rfl) ?s_tkl4b (fun hHeld => ?_)
   case s_tkl4b => exact ⟨kL, at_cL kC⟩
   have hD := (Below.refl y7.heap.size y7).drew
   replace HB := bt HB hD
   replace kC := kC.b hD
   replace kM := kM.b hD
   replace kO := kO.b hD
   replace kL := kL.b hD
   replace R0 := R0.on hD hD.size
   replace Rm := Rm.on hD hD.size
   replace R5 := R5.on hD hD.size
   clear hD
   generalize y7.drew = y8 at *
   refine tj 0 _ ?_
   try simp only [Act.put, ka, kb, kc]
   refine tj 1 _ ?_
   try simp only [Act.put, ka, kb, kc]
   refine tj 2 _ ?_
   try simp only [Act.put, ka, kb, kc]
   refine tj 3 _ ?_ (hy := fun wq hSw => rld_L rfl rfl (And.left hSw))
   try simp only [Act.put, ka, kb, kc]
   refine rr [4] ?_
   refine rc (fun KQ hKQ => ?_) AllReadyH.nil
   go_simp
   have CC := mayBecome_any M A5 n5 p5 y8 y8.heap.size R5 (Nat.le_refl _) (by have := hMl.out; have := hl5.out; omega)
   rw [hbb.out] at CC
   refine (CC).mono ?_
   rintro e y9 ⟨rfl, hY⟩
   replace HB := bt HB hY
   replace kC := kC.b hY
   replace kM := kM.b hY
   replace kO := kO.b hY
   replace kL := kL.b hY
   replace R0 := R0.on hY hY.size
   replace Rm := Rm.on hY hY.size
   replace R5 := R5.on hY hY.size
   clear hY
   clear CC
   go_wp2_with fail
   refine hKQ.out _ _ (⟨kL, at_cL kC⟩) (fun _ => ?_)
   clear hKQ KQ
   try simp only [Act.put, ka, kb, kc]
   refine tj 5 _ ?_
   try simp only [Act.put, ka, kb, kc]
   refine tj 6 _ ?_
   try simp only [Act.put, ka, kb, kc]
   refine tj 7 _ ?_
   try simp only [Act.put, ka, kb, kc]
   refine tv 8 ?_
   try simp only [Act.put, ka, kb, kc]
   refine tv 9 ?_
   try simp only [Act.put, ka, kb, kc]
   refine tv 10 ?_
   try simp only [Act.put, ka, kb, kc]
   refine tv 11 ?_
   try simp only [Act.put, ka, kb, kc]
   refine tv 12 ?_
   try simp only [Act.put, ka, kb, kc]
   refine tv 13 ?_
   try simp only [Act.put, ka, kb, kc]
   refine tv 14 ?_
   try simp only [Act.put, ka, kb, kc]
   refine tv 15 ?_
   try simp only [Act.put, ka, kb, kc]
   refine tj 16 _ ?_
   try simp only [Act.put, ka, kb, kc]
   refine wpAnyH_done (by kernel_rfl) ?_ _
   have hE := Lib.hid (hT0.out (.inr (.inr (.inr (.inl (by first | rfl | trivial))))))
   go_wp2_with (first | go_skip | refine st_C rfl _ _ rfl c A n p rfl rfl _ kO rfl ?_ | (first | refine lo_Cj kC ?_ | refine lo_cLj kC ?_ | refine lo_cJj kC ?_ | refine lo_Mj kM ?_ | refine lo_mJj kM ?_ | refine lo_Cj kO ?_ | refine lo_cLj kO ?_ | refine lo_cJj kO ?_ | refine lo_Lj kL ?_ | refine lo_lJj kL ?_))
   intro y10 kO2 pO
   replace kC := kC.put pO (Nat.ne_of_lt LTkCkO.out)
   replace kM := kM.put pO (Nat.ne_of_lt LTkMkO.out)
   replace kL := kL.put pO (Nat.ne_of_gt LTkOkL.out)
   replace R0 := R0.putS pO NIR0kO.out
   replace Rm := Rm.putS pO NIRmkO.out
   replace R5 := R5.putS pO NIR5kO.out
   replace HB := pO.below _ _ HB LEkO.out
   clear kO
   have kO := kO2
   clear kO2 pO
   try clear c_ro ce
   go_wp2_with (first | go_skip | refine lo_Cj kC ?_ | refine lo_cLj kC ?_ | refine lo_cJj kC ?_ | refine lo_Mj kM ?_ | refine lo_mJj kM ?_ | refine lo_Cj kO ?_ | refine lo_cLj kO ?_ | refine lo_cJj kO ?_ | refine lo_Lj kL ?_ | refine lo_lJj kL ?_)
   (try simp only [Exit.inBlock, Exit.then])
   refine bodyPost_ret (res1 Tryz.results83 rfl (aggC _) (sizeC _) (ldCv kO)) rfl ?_
   rw [hE.out]
   exact ⟨A, n, p, rfl, R0, hp, OldNew.refl _ _ _, HB⟩
 have hMF := Lib.hid (hMf.out hbb.out)
 go_upto_region 4 with (first | go_skip | refine lo_Cj kC ?_ | refine lo_cLj kC ?_ | refine lo_cJj kC ?_ | refine lo_Mj kM ?_ | refine lo_mJj kM ?_ | refine lo_Cj kO ?_ | refine lo_cLj kO ?_ | refine lo_cJj kO ?_ | refine lo_Lj kL ?_ | refine lo_lJj kL ?_)
 refine wp_region_held_drew (S := fun wq => Blk 30 wq gkL (lgC M (.slice A5 n5 p5)) ∧ At wq w.heap.size 8 (lgC c.lg (.slice A n p))) (by kernel_rfl) ?s_tkl4c (fun hHeld => ?_)
 case s_tkl4c => exact ⟨kL, at_cL kC⟩
 have hD := (Below.refl y7.heap.size y7).drew
 replace HB := bt HB hD
 replace kC := kC.b hD
 replace kM := kM.b hD
 replace kO := kO.b hD
 replace kL := kL.b hD
 replace R0 := R0.on hD hD.size
 replace Rm := Rm.on hD hD.size
 replace R5 := R5.on hD hD.size
 clear hD
 generalize y7.drew = y8 at *
 refine tj 0 _ ?_
 try simp only [Act.put, ka, kb, kc]
 refine tj 1 _ ?_
 try simp only [Act.put, ka, kb, kc]
 refine tj 2 _ ?_
 try simp only [Act.put, ka, kb, kc]
 refine tj 3 _ ?_ (hy := fun wq hSw => rld_L rfl rfl (And.left hSw))
 try simp only [Act.put, ka, kb, kc]
 refine rr [4] ?_
 refine rc (fun KQ hKQ => ?_) AllReadyH.nil
 go_simp
 have CC := mayBecome_any M A5 n5 p5 y8 y8.heap.size R5 (Nat.le_refl _) (by have := hMl.out; have := hl5.out; omega)
 rw [hbb.out] at CC
 refine (CC).mono ?_
 rintro e y9 ⟨rfl, hY⟩
 replace HB := bt HB hY
 replace kC := kC.b hY
 replace kM := kM.b hY
 replace kO := kO.b hY
 replace kL := kL.b hY
 replace R0 := R0.on hY hY.size
 replace Rm := Rm.on hY hY.size
 replace R5 := R5.on hY hY.size
 clear hY
 clear CC
 go_wp2_with fail
 refine hKQ.out _ _ (⟨kL, at_cL kC⟩) (fun _ => ?_)
 clear hKQ KQ
 try simp only [Act.put, ka, kb, kc]
 refine tj 5 _ ?_
 try simp only [Act.put, ka, kb, kc]
 refine tj 6 _ ?_
 try simp only [Act.put, ka, kb, kc]
 refine tj 7 _ ?_
 try simp only [Act.put, ka, kb, kc]
 refine tj 8 _ ?_
 try simp only [Act.put, ka, kb, kc]
 refine tj 9 ((lgV c.lg (.slice A n p))) ?_ (hy := fun wq hSw => run_ldAt rfl rfl hSw.2 (aggL _) (sizeL _))
 try simp only [Act.put, ka, kb, kc]
 refine tj 10 _ ?_ (hy := fun wq hSw => rld_L rfl rfl (And.left hSw))
 try simp only [Act.put, ka, kb, kc]
 refine tj 12 _ ?_ (hy := fun wq hSw => rld_L rfl rfl (And.left hSw))
 try simp only [Act.put, ka, kb, kc]
 refine rr [11] ?_
 refine rc (fun KQ hKQ => ?_) AllReadyH.nil
 go_simp
 have CC := enti.last_any M A5 n5 p5 y9 hl5.out hMF.out
 rw [hlM.out] at CC
 refine (CC).mono ?_
 rintro e y10 ⟨rfl, hY⟩
 replace HB := bt HB hY
 replace kC := kC.b hY
 replace kM := kM.b hY
 replace kO := kO.b hY
 replace kL := kL.b hY
 replace R0 := R0.on hY hY.size
 replace Rm := Rm.on hY hY.size
 replace R5 := R5.on hY hY.size
 clear hY
 clear CC
 go_wp2_with fail
 refine hKQ.out _ _ (⟨kL, at_cL kC⟩) (fun _ => ?_)
 clear hKQ KQ
 try simp only [Act.put, ka, kb, kc]
 refine rr [13] ?_
 refine rc (fun KQ hKQ => ?_) AllReadyH.nil
 go_simp
 have CC := lastTerm_any M A5 n5 p5 y10 y10.heap.size R5 (Nat.le_refl _) hp5 hMF.out
 rw [hlM.out, htM.out] at CC
 refine (CC).mono ?_
 rintro e y11 ⟨rfl, hY⟩
 replace HB := bt HB hY
 replace kC := kC.b hY
 replace kM := kM.b hY
 replace kO := kO.b hY
 replace kL := kL.b hY
 replace R0 := R0.on hY hY.size
 replace Rm := Rm.on hY hY.size
 replace R5 := R5.on hY hY.size
 clear hY
 clear CC
 go_wp2_with fail
 refine hKQ.out _ _ (⟨kL, at_cL kC⟩) (fun _ => ?_)
 clear hKQ KQ
 try simp only [Act.put, ka, kb, kc]
 refine rr [14] ?_
 refine rc (fun KQ hKQ => ?_) AllReadyH.nil
 go_simp
 have CC := enti.newer_any c.lg A n p lM tM y11 y11.heap.size R0 (Nat.le_refl _) hp HF.out
 rw [hnb.out] at CC
 refine (CC).mono ?_
 rintro e y12 ⟨rfl, hY⟩
 replace HB := bt HB hY
 replace kC := kC.b hY
 replace kM := kM.b hY
 replace kO := kO.b hY
 replace kL := kL.b hY
 replace R0 := R0.on hY hY.size
 replace Rm := Rm.on hY hY.size
 replace R5 := R5.on hY hY.size
 clear hY
 clear CC
 go_wp2_with fail
 refine hKQ.out _ _ (⟨kL, at_cL kC⟩) (fun _ => ?_)
 clear hKQ KQ
 try simp only [Act.put, ka, kb, kc]
 refine tj 15 _ ?_
 try simp only [Act.put, ka, kb, kc]
 refine tj 16 _ ?_
 try simp only [Act.put, ka, kb, kc]
 refine wpAnyH_done (by kernel_rfl) ?_ _
 rcases nb with _ | _
 · skip
   have hE := Lib.hid (hT0.out (.inr (.inr (.inr (.inr (by first | rfl | trivial))))))
   go_wp2_with (first | go_skip | refine st_C rfl _ _ rfl c A n p rfl rfl _ kO rfl ?_ | (first | refine lo_Cj kC ?_ | refine lo_cLj kC ?_ | refine lo_cJj kC ?_ | refine lo_Mj kM ?_ | refine lo_mJj kM ?_ | refine lo_Cj kO ?_ | refine lo_cLj kO ?_ | refine lo_cJj kO ?_ | refine lo_Lj kL ?_ | refine lo_lJj kL ?_))
   intro y13 kO2 pO
   replace kC := kC.put pO (Nat.ne_of_lt LTkCkO.out)
   replace kM := kM.put pO (Nat.ne_of_lt LTkMkO.out)
   replace kL := kL.put pO (Nat.ne_of_gt LTkOkL.out)
   replace R0 := R0.putS pO NIR0kO.out
   replace Rm := Rm.putS pO NIRmkO.out
   replace R5 := R5.putS pO NIR5kO.out
   replace HB := pO.below _ _ HB LEkO.out
   clear kO
   have kO := kO2
   clear kO2 pO
   try clear c_ro ce
   go_wp2_with (first | go_skip | refine lo_Cj kC ?_ | refine lo_cLj kC ?_ | refine lo_cJj kC ?_ | refine lo_Mj kM ?_ | refine lo_mJj kM ?_ | refine lo_Cj kO ?_ | refine lo_cLj kO ?_ | refine lo_cJj kO ?_ | refine lo_Lj kL ?_ | refine lo_lJj kL ?_)
   (try simp only [Exit.inBlock, Exit.then])
   refine bodyPost_ret (res1 Tryz.results83 rfl (aggC _) (sizeC _) (ldCv kO)) rfl ?_
   rw [hE.out]
   exact ⟨A, n, p, rfl, R0, hp, OldNew.refl _ _ _, HB⟩
 have hE := Lib.hid (hT1.out h2.out (by first | rfl | trivial) (by first | rfl | trivial) (by first | rfl | trivial) (by first | rfl | trivial))
 go_wp2_with (first | go_skip | refine wpList_stAt rfl 30 _ _ rfl (cells := (lgC M (.slice A5 n5 p5)).toArray) (crC { c with lg := M } (.slice A5 n5 p5)) rfl rfl kC sizeLv (by show 8 + 14 ≤ 45; omega) (lg_one _) rfl ?_ | (first | refine lo_Cj kC ?_ | refine lo_cLj kC ?_ | refine lo_cJj kC ?_ | refine lo_Mj kM ?_ | refine lo_mJj kM ?_ | refine lo_Cj kO ?_ | refine lo_cLj kO ?_ | refine lo_cJj kO ?_ | refine lo_Lj kL ?_ | refine lo_lJj kL ?_))
 intro y13 kC2 pO
 replace kM := kM.put pO (Nat.ne_of_gt LTkCkM.out)
 replace kO := kO.put pO (Nat.ne_of_gt LTkCkO.out)
 replace kL := kL.put pO (Nat.ne_of_gt LTkCkL.out)
 replace R0 := R0.putS pO NIR0kC.out
 replace Rm := Rm.putS pO NIRmkC.out
 replace R5 := R5.putS pO NIR5kC.out
 replace HB := pO.below _ _ HB LEkC.out
 clear kC
 have kC := kC2
 clear kC2 pO
 go_upto_region 7 with (first | go_skip | refine lo_Cj kC ?_ | refine lo_cLj kC ?_ | refine lo_cJj kC ?_ | refine lo_Mj kM ?_ | refine lo_mJj kM ?_ | refine lo_Cj kO ?_ | refine lo_cLj kO ?_ | refine lo_cJj kO ?_ | refine lo_Lj kL ?_ | refine lo_lJj kL ?_)
 refine tail.region (S := fun wq => wq.cell? ⟨w.heap.size, 6, none⟩ = some (.int .i64 cm) ∧ Blk 30 wq gkL (lgC M (.slice A5 n5 p5))) [6] (by kernel_rfl) (⟨by rw [← hcm.out]; exact kC.drew.cell 6, kL.drew⟩) (fun hHeld => ?_)
 have hD0 := (Below.refl y13.heap.size y13).drew
 replace HB := bt HB hD0
 replace kC := kC.b hD0
 replace kM := kM.b hD0
 replace kO := kO.b hD0
 replace kL := kL.b hD0
 replace R0 := R0.on hD0 hD0.size
 replace Rm := Rm.on hD0 hD0.size
 replace R5 := R5.on hD0 hD0.size
 clear hD0
 generalize y13.drew = y14 at *
 have sS : y14.cell? ⟨w.heap.size, 6, none⟩ = some (.int .i64 cm) ∧ Blk 30 y14 gkL (lgC M (.slice A5 n5 p5)) := ⟨by rw [← hcm.out]; exact kC.cell 6, kL⟩
 refine tail.tt 0 (v := ?v_0_92) (?y_0_92) ?_
 case y_0_92 => (intro wq hSw; (try dsimp only at hSw); go_simp; first | done | with_reducible rfl)
 try simp only [Act.put, ka, kb, kc]
 refine tail.tt 1 (v := ?v_1_92) (?y_1_92) ?_
 case y_1_92 => (intro wq hSw; (try dsimp only at hSw); go_simp; first | done | with_reducible rfl)
 try simp only [Act.put, ka, kb, kc]
 refine tail.tt 2 (fun wq hSw => rld_L rfl rfl (And.right hSw)) ?_
 try simp only [Act.put, ka, kb, kc]
 refine tail.tn 3 (fun KQ hKQ => ?_)
 go_simp
 have CC := enti.last_any M A5 n5 p5 y14 hl5.out hMF.out
 rw [hlM.out] at CC
 refine (CC).mono ?_
 rintro e y15 ⟨rfl, hY⟩
 replace HB := bt HB hY
 replace kC := kC.b hY
 replace kM := kM.b hY
 replace kO := kO.b hY
 replace kL := kL.b hY
 replace R0 := R0.on hY hY.size
 replace Rm := Rm.on hY hY.size
 replace R5 := R5.on hY hY.size
 clear hY
 clear CC sS
 have sS : y15.cell? ⟨w.heap.size, 6, none⟩ = some (.int .i64 cm) ∧ Blk 30 y15 gkL (lgC M (.slice A5 n5 p5)) := ⟨by rw [← hcm.out]; exact kC.cell 6, kL⟩
 go_wp2_with fail
 refine hKQ.out _ _ ?s_3 ?_
 case s_3 => exact .inr sS
 clear hKQ KQ
 try simp only [Act.put, ka, kb, kc]
 refine tail.tt 4 (v := (.int .i64 nc)) (?y_4_92) ?_
 case y_4_92 => exact fun wq hSw => rb_minz rfl rfl rfl rfl hnc.out
 try simp only [Act.put, ka, kb, kc]
 refine tail.tt 5 (v := ?v_5_92) (?y_5_92) ?_
 case y_5_92 => (intro wq hSw; (try dsimp only at hSw); go_simp; first | done | with_reducible rfl)
 try simp only [Act.put, ka, kb, kc]
 refine tail.tn 6 (fun KQ hKQ => ?_)
 have df := fun i => kC.frozen i
 have cR := kC.cell 6
 go_simp
 clear df cR sS
 have kC2 : Blk 33 _ w.heap.size (crC { c with lg := M, cm := nc } (.slice A5 n5 p5)) := kC.set_ 6 (.int .i64 nc)
 have pO := put_set y15 w.heap.size (6) (.int .i64 nc)
 generalize (y15.setCell ⟨w.heap.size, 6, none⟩ (.int .i64 nc)) = y16 at *
 replace kM := kM.put pO (Nat.ne_of_gt LTkCkM.out)
 replace kO := kO.put pO (Nat.ne_of_gt LTkCkO.out)
 replace kL := kL.put pO (Nat.ne_of_gt LTkCkL.out)
 replace R0 := R0.putS pO NIR0kC.out
 replace Rm := Rm.putS pO NIRmkC.out
 replace R5 := R5.putS pO NIR5kC.out
 replace HB := pO.below _ _ HB LEkC.out
 clear kC
 have kC := kC2
 clear kC2 pO
 refine hKQ.out _ _ ?s_6 ?_
 case s_6 => exact .inl (by decide)
 clear hKQ KQ
 try simp only [Act.put]
 refine tail.done (by kernel_rfl) ?_ _
 rw [← hLe.out] at kC
 go_wp2_with (first | go_skip | refine st_C rfl _ _ rfl (leC c M) A5 n5 p5 rfl rfl _ kO rfl ?_ | (first | refine lo_Cj kC ?_ | refine lo_cLj kC ?_ | refine lo_cJj kC ?_ | refine lo_Mj kM ?_ | refine lo_mJj kM ?_ | refine lo_Cj kO ?_ | refine lo_cLj kO ?_ | refine lo_cJj kO ?_ | refine lo_Lj kL ?_ | refine lo_lJj kL ?_))
 intro y17 kO2 pO
 replace kC := kC.put pO (Nat.ne_of_lt LTkCkO.out)
 replace kM := kM.put pO (Nat.ne_of_lt LTkMkO.out)
 replace kL := kL.put pO (Nat.ne_of_gt LTkOkL.out)
 replace R0 := R0.putS pO NIR0kO.out
 replace Rm := Rm.putS pO NIRmkO.out
 replace R5 := R5.putS pO NIR5kO.out
 replace HB := pO.below _ _ HB LEkO.out
 clear kO
 have kO := kO2
 clear kO2 pO
 go_wp2_with (first | go_skip | refine lo_Cj kC ?_ | refine lo_cLj kC ?_ | refine lo_cJj kC ?_ | refine lo_Mj kM ?_ | refine lo_mJj kM ?_ | refine lo_Cj kO ?_ | refine lo_cLj kO ?_ | refine lo_cJj kO ?_ | refine lo_Lj kL ?_ | refine lo_lJj kL ?_)
 (try simp only [Exit.inBlock, Exit.then])
 refine bodyPost_ret (res1 Tryz.results83 rfl (aggC _) (sizeC _) (ldCv kO)) rfl ?_
 rw [hE.out]
 exact ⟨A5, n5, p5, rfl, R5, hp5, ON52.out, HB⟩
end Go.Proofs.YtegnfkbmlalkeaaGreat.cor
