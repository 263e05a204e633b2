/- The landed core: push, send. Conditions: those that the theorem names. -/
import Derived.Deep.RegionHeld3
import Derived.Deep.Cut
import Derived.Lib.Hide
import Derived.Test.YtegnfkbmlalkeaaGreatSpKitCl
import Derived.Test.YtegnfkbmlalkeaaGreatSpJ4
import Derived.Test.YtegnfkbmlalkeaaGreatSpJ2
import Derived.Test.YtegnfkbmlalkeaaGreatSpEntJ
import Derived.Test.YtegnfkbmlalkeaaGreatSpKitLg
import Derived.Test.YtegnfkbmlalkeaaGreatSpJ0
set_option linter.unusedVariables false
set_option maxHeartbeats 16000000
set_option maxRecDepth 10000
namespace Go.Proofs.YtegnfkbmlalkeaaGreat.cor
open Go Go.RowKit kit nums cf lg cr se
theorem push_any (c : CoL) (A : Option Addr) (n p : Nat) (x : EnL) (w : World) (B : Nat) (hR : RdE w B A n c.lg.es) (hB : B ≤ w.heap.size) (hp : n ≤ p) (hf : Fit c.lg) (hi : 1 ≤ c.id ∧ c.id ≤ 9) (hlm0 : c.lg.es.length ≤ 999990) : Calls Tryz.prog 89 #[crV c (.slice A n p), enV x] w fun e w' => ∃ A' n' p', e = .returned (crV (pushC c x) (.slice A' n' p')) ∧ RdE w' w'.heap.size A' n' (pushC c x).lg.es ∧ n' ≤ p' ∧ OldNew w.heap.size A n A' n' ∧ Below w.heap.size w w' := by
 have HF := Lh hf
 have hlm := Lh hlm0
 clear hlm0
 have hid := Lh hi
 obtain ⟨j, hj⟩ : ∃ j : Nat, c.id = (j : Int) := ⟨c.id.toNat, by omega⟩
 have hj10 : j < 10 := by omega
 have hn8 : nodeB (j : Int) = true := by unfold nodeB; rw [decide_eq_true (by omega), decide_eq_true (by omega)]; rfl
 have hjt : c.id.toNat = j := by omega
 obtain ⟨tm, htm⟩ : ∃ q, c.tm = q := ⟨_, rfl⟩
 obtain ⟨x2, hx2⟩ : ∃ q : EnL, { x with t := tm } = q := ⟨_, rfl⟩
 have hPu : Hid (pushC c x = { c with lg := pushF c.lg x2, mt := upd c.mt j (lastF (pushF c.lg x2) + 0) }) := by show _ = _; rw [← hx2, ← htm, Int.add_zero]; unfold pushC; rw [hjt, show lastF (pushF c.lg { x with t := c.tm }) = lastF c.lg + 1 by unfold lastF pushF; simp; omega]
 rw [Int.add_zero] at hPu
 clear hf hi
 replace hj := Lh hj
 replace htm := Lh htm
 replace hx2 := Lh hx2
 replace hjt := Lh hjt
 replace hn8 := Lh hn8
 have R0 := hR.more hB
 clear hR hB
 go_enter Tryz.func89, Tryz.ntmps89
 have NIR0kC := Lh (NotIn.of_rd R0 (Nat.le_refl _))
 have LEkC : Hid (w.heap.size ≤ w.heap.size) := Nat.le_refl _
 go_wp2_with (first | refine box_C rfl _ rfl c (.slice A n p) rfl ?_ | fail)
 intro y1 kC e1 s1
 clear s1
 have HB := e1
 replace R0 := R0.on e1 e1.size
 clear e1
 have LTkCkE := Lh kC.lt
 have NIR0kE := Lh (NotIn.of_rd R0 (Nat.le_refl _))
 have LEkE : Hid (w.heap.size ≤ y1.heap.size) := HB.size
 go_wp2_with (first | refine box_E rfl _ rfl x rfl ?_ | (first | refine lo_Cj kC ?_ | refine lo_cLj kC ?_ | refine lo_cJj kC ?_))
 intro y2 kE e2 s2
 clear s2
 replace HB := bt HB e2
 replace kC := kC.b e2
 replace R0 := R0.on e2 e2.size
 clear e2
 generalize y1.heap.size = gkE at *
 have LTkCkO := Lh kC.lt
 have LTkEkO := Lh kE.lt
 have NIR0kO := Lh (NotIn.of_rd R0 (Nat.le_refl _))
 have LEkO : Hid (w.heap.size ≤ y2.heap.size) := HB.size
 go_wp2_with (first | refine al_C rfl rfl ?_ | (first | refine lo_Cj kC ?_ | refine lo_cLj kC ?_ | refine lo_cJj kC ?_ | refine lo_Ej kE ?_))
 intro y3 kO e3 s3
 clear s3
 replace kO : Blk _ _ _ (crC zC (.slice none 0 0)) := kO
 replace HB := bt HB e3
 replace kC := kC.b e3
 replace kE := kE.b e3
 replace R0 := R0.on e3 e3.size
 clear e3
 generalize y2.heap.size = gkO at *
 have ctm : y3.cell? ⟨w.heap.size, 2, none⟩ = some (.int .i64 tm) := by rw [← htm.out]; exact kC.cell 2
 have df := fun i => kE.frozen i
 have cR0 : _ = some _ := kE.cell 0
 go_upto_region 2 with (fail)
 clear df cR0
 have kE2 : Blk 52 _ gkE (enC { x with t := tm }) := kE.set_ 0 (.int .i64 tm)
 have pO := put_set y3 gkE (0) (.int .i64 tm)
 generalize (y3.setCell ⟨gkE, 0, none⟩ (.int .i64 tm)) = y4 at *
 replace kC := kC.put pO (Nat.ne_of_lt LTkCkE.out)
 replace kO := kO.put pO (Nat.ne_of_gt LTkEkO.out)
 replace R0 := R0.putS pO NIR0kE.out
 replace HB := pO.below _ _ HB LEkE.out
 clear kE
 have kE := kE2
 clear kE2 pO
 clear ctm
 rw [hx2.out] at kE
 go_wp2_with (first | refine lo_Cj kC ?_ | refine lo_cLj kC ?_ | refine lo_cJj kC ?_ | refine lo_Ej kE ?_ | refine lo_Cj kO ?_ | refine lo_cLj kO ?_ | refine lo_cJj kO ?_)
 refine (enti.push_any c.lg A n p x2 y4 y4.heap.size R0 (Nat.le_refl _) hp HF.out).mono ?_
 rintro e y5 ⟨A1, p1, rfl, hO, hY⟩
 have NIR1kC := Lh (NotIn.of_own hO kC.lt)
 have NIR1kO := Lh (NotIn.of_own hO kO.lt)
 have ON12 : Hid (OldNew w.heap.size A n A1 (n + 1)) := OldNew.own hO HB.size
 have R1 := hO.cap.2.2.2
 have hp1 := hO.cap.2.1
 clear hO
 replace HB := bt HB hY
 replace kC := kC.b hY
 replace kE := kE.b hY
 replace kO := kO.b hY
 replace R0 := R0.on hY hY.size
 clear hY
 obtain ⟨L2, hL2⟩ : ∃ q, pushF c.lg x2 = q := ⟨_, rfl⟩
 obtain ⟨L2, hL2⟩ : ∃ q, pushF c.lg x2 = q := ⟨_, rfl⟩
 rw [hL2] at R1 hPu
 have hl2 := Lh R1.len
 have hF2 : Hid (Fit L2) := by show Fit _; rw [← hL2]; exact ⟨HF.out.1, HF.out.2.1, by have h2 := hlm.out; show (c.lg.es ++ [x2]).length ≤ _; rw [List.length_append, List.length_singleton]; omega⟩
 simp only [hL2]
 replace hL2 := Lh hL2
 go_wp2_with (first | refine wpList_stAt rfl 30 _ _ rfl (cells := (lgC L2 (.slice A1 (n + 1) p1)).toArray) (crC { c with lg := L2 } (.slice A1 (n + 1) p1)) rfl rfl kC sizeLv (by show 8 + 14 ≤ 45; omega) (lg_one _) rfl ?_ | (first | refine lo_Cj kC ?_ | refine lo_cLj kC ?_ | refine lo_cJj kC ?_ | refine lo_Ej kE ?_ | refine lo_Cj kO ?_ | refine lo_cLj kO ?_ | refine lo_cJj kO ?_))
 intro y6 kC2 pO
 replace kE := kE.put pO (Nat.ne_of_gt LTkCkE.out)
 replace kO := kO.put pO (Nat.ne_of_gt LTkCkO.out)
 replace R0 := R0.putS pO NIR0kC.out
 replace R1 := R1.putS pO NIR1kC.out
 replace HB := pO.below _ _ HB LEkC.out
 clear kC
 have kC := kC2
 clear kC2 pO
 have c0 : y6.cell? ⟨w.heap.size, 0, none⟩ = some (.int .i64 (j : Int)) := by rw [← hj.out]; exact kC.cell 0
 go_wp2_with (first | refine lo_Cj kC ?_ | refine lo_cLj kC ?_ | refine lo_cJj kC ?_ | refine lo_Ej kE ?_ | refine lo_Cj kO ?_ | refine lo_cLj kO ?_ | refine lo_cJj kO ?_)
 have CC := isnode_any (j : Int) y6
 rw [hn8.out] at CC
 refine (CC).mono ?_
 rintro e y7 ⟨rfl, hW⟩
 subst hW
 clear CC
 obtain ⟨la, hla⟩ : ∃ q, lastF L2 = q := ⟨_, rfl⟩
 rw [hla] at hPu
 replace hla := Lh hla
 have cj1 : (j : Int) < 10 := by omega
 have cj0 : (0 : Int) ≤ (j : Int) := by omega
 go_upto_region 4 with (first | refine lo_Cj kC ?_ | refine lo_cLj kC ?_ | refine lo_cJj kC ?_ | refine lo_Ej kE ?_ | refine lo_Cj kO ?_ | refine lo_cLj kO ?_ | refine lo_cJj kO ?_)
 refine wp_region_held_drew (S := fun wq => At wq w.heap.size 8 (lgC L2 (.slice A1 (n + 1) p1)) ∧ wq.cell? ⟨w.heap.size, 0, none⟩ = some (.int .i64 (j : Int))) (by kernel_rfl) ?s_psh4 (fun hHeld => ?_)
 case s_psh4 => exact ⟨at_cL kC, by rw [← hj.out]; exact kC.cell 0⟩
 have hD := (Below.refl y6.heap.size y6).drew
 replace HB := bt HB hD
 replace kC := kC.b hD
 replace kE := kE.b hD
 replace kO := kO.b hD
 replace R0 := R0.on hD hD.size
 replace R1 := R1.on hD hD.size
 clear hD
 generalize y6.drew = y8 at *
 iterate 3 (refine tx 0 _ ?_; try simp only [Act.put, ka, kb, kc])
 refine tj 3 ((lgV L2 (.slice A1 (n + 1) p1))) ?_ (hy := fun wq hSw => run_ldAt rfl rfl hSw.1 (aggL _) (sizeL _))
 try simp only [Act.put, ka, kb, kc]
 refine tj 5 _ ?_
 try simp only [Act.put, ka, kb, kc]
 refine rr [4] ?_
 refine rc (fun KQ hKQ => ?_) AllReadyH.nil
 go_simp
 have CC := enti.last_any L2 A1 (n + 1) p1 y8 hl2.out hF2.out
 rw [hla.out] at CC
 refine (CC).mono ?_
 rintro e y9 ⟨rfl, hY⟩
 replace HB := bt HB hY
 replace kC := kC.b hY
 replace kE := kE.b hY
 replace kO := kO.b hY
 replace R0 := R0.on hY hY.size
 replace R1 := R1.on hY hY.size
 clear hY
 clear CC
 go_wp2_with fail
 refine hKQ.out _ _ (⟨at_cL kC, by rw [← hj.out]; exact kC.cell 0⟩) (fun _ => ?_)
 clear hKQ KQ
 try simp only [Act.put, ka, kb, kc]
 refine tj 6 _ ?_
 try simp only [Act.put, ka, kb, kc]
 refine rr [7] ?_
 refine rc (fun KQ hKQ => ?_) AllReadyH.nil
 have df := fun i => kC.frozen i
 have cR : _ = some _ := cr_mt kC hj10
 go_simp
 clear df cR
 have kC2 : Blk 33 _ w.heap.size (crC { c with lg := L2, mt := upd c.mt j la } (.slice A1 (n + 1) p1)) := crset_mt kC hj10 la
 have pO := put_set y9 w.heap.size (35 + j) (.int .i64 la)
 generalize (y9.setCell ⟨w.heap.size, 35 + j, none⟩ (.int .i64 la)) = y10 at *
 replace kE := kE.put pO (Nat.ne_of_gt LTkCkE.out)
 replace kO := kO.put pO (Nat.ne_of_gt LTkCkO.out)
 replace R0 := R0.putS pO NIR0kC.out
 replace R1 := R1.putS pO NIR1kC.out
 replace HB := pO.below _ _ HB LEkC.out
 clear kC
 have kC := kC2
 clear kC2 pO
 refine hKQ.out _ _ (⟨at_cL kC, by rw [← hj.out]; exact kC.cell 0⟩) (fun _ => ?_)
 clear hKQ KQ
 try simp only [Act.put]
 refine wpAnyH_done (by kernel_rfl) ?_ _
 rw [← hPu.out] at kC
 go_wp2_with (first | refine st_C rfl _ _ rfl (pushC c x) A1 (n + 1) p1 rfl rfl _ kO rfl ?_ | (first | refine lo_Cj kC ?_ | refine lo_cLj kC ?_ | refine lo_cJj kC ?_ | refine lo_Ej kE ?_ | refine lo_Cj kO ?_ | refine lo_cLj kO ?_ | refine lo_cJj kO ?_))
 intro y11 kO2 pO
 replace kC := kC.put pO (Nat.ne_of_lt LTkCkO.out)
 replace kE := kE.put pO (Nat.ne_of_lt LTkEkO.out)
 replace R0 := R0.putS pO NIR0kO.out
 replace R1 := R1.putS pO NIR1kO.out
 replace HB := pO.below _ _ HB LEkO.out
 clear kO
 have kO := kO2
 clear kO2 pO
 go_wp2_with (first | refine lo_Cj kC ?_ | refine lo_cLj kC ?_ | refine lo_cJj kC ?_ | refine lo_Ej kE ?_ | refine lo_Cj kO ?_ | refine lo_cLj kO ?_ | refine lo_cJj kO ?_)
 (try simp only [Exit.inBlock, Exit.then])
 refine bodyPost_ret (res1 Tryz.results89 rfl (aggC _) (sizeC _) (ldCv kO)) rfl ?_
 exact ⟨A1, n + 1, p1, rfl, (by rw [hPu.out]; exact R1), hp1, ON12.out, HB⟩
theorem send_snap {c : CoL} {n : Int} (h : nxF c n ≤ c.lg.b) : sendF c n = { k := 5, f := c.id, t := n, m := c.tm, i := c.lg.b, lt := c.lg.t, c := c.cm, s := c.sf, y := false, es := [], d := c.sn, j := c.lg.j } := by unfold sendF; rw [if_pos h]; rfl
theorem send_app {c : CoL} {n : Int} (h : ¬ nxF c n ≤ c.lg.b) : sendF c n = { k := 3, f := c.id, t := n, m := c.tm, i := nxF c n - 1, lt := (termF c.lg (nxF c n - 1)).1, c := c.cm, s := c.sf, y := false, es := sliceF c.lg (nxF c n) 8, d := ⟨#[]⟩, j := zeroJ } := by unfold sendF; rw [if_neg h]; rfl
theorem send_any (c : CoL) (A : Option Addr) (n p : Nat) (j : Nat) (w : World) (B : Nat) (hR : RdE w B A n c.lg.es) (hB : B ≤ w.heap.size) (hp : n ≤ p) (hf : Fit c.lg) (hj : j < 10) (hx : 0 ≤ c.nx j ∧ c.nx j ≤ 2199023255552) : Calls Tryz.prog 132 #[crV c (.slice A n p), .int .i64 (j : Int)] w fun e w' => ∃ A' n' p', e = .returned (msV (sendF c (j : Int)) (.slice A' n' p')) ∧ OwnE w' w.heap.size (.slice A' n' p') (sendF c (j : Int)).es ∧ Below w.heap.size w w' := by
 have HF := Lh hf
 obtain ⟨nx, hnx⟩ : ∃ q, c.nx j = q := ⟨_, rfl⟩
 rw [hnx] at hx
 have hnF : nxF c (j : Int) = nx := hnx
 have hS1 := Lh (fun h => send_snap (c := c) (n := (j : Int)) (by rw [hnF]; exact h))
 have hS2 := Lh (fun (h : c.lg.b < nx) => send_app (c := c) (n := (j : Int)) (by rw [hnF]; omega))
 rw [hnF] at hS2
 have cj1 : (j : Int) < 10 := by omega
 have cj0 : (0 : Int) ≤ (j : Int) := by omega
 obtain ⟨b, hb0⟩ : ∃ q, c.lg.b = q := ⟨_, rfl⟩
 rw [hb0] at hS1 hS2
 obtain ⟨t, ht0⟩ : ∃ q, c.lg.t = q := ⟨_, rfl⟩
 obtain ⟨cm, hcm⟩ : ∃ q, c.cm = q := ⟨_, rfl⟩
 obtain ⟨sf, hsf⟩ : ∃ q, c.sf = q := ⟨_, rfl⟩
 obtain ⟨sn, hsn⟩ : ∃ q, c.sn = q := ⟨_, rfl⟩
 clear hf hnF
 replace hnx := Lh hnx
 replace hb0 := Lh hb0
 replace ht0 := Lh ht0
 replace hcm := Lh hcm
 replace hsf := Lh hsf
 replace hsn := Lh hsn
 replace hx := Lh hx
 have hj10 := hj
 have hj9 := Lh hj
 have R0 := hR.more hB
 clear hR hB
 go_enter Tryz.func132, Tryz.ntmps132
 go_wp2_with (first | refine box_C rfl _ rfl c (.slice A n p) rfl ?_ | fail)
 intro y1 kC e1 s1
 clear s1
 have HB := e1
 replace R0 := R0.on e1 e1.size
 clear e1
 have LTkCkO := Lh kC.lt
 have NIR0kO := Lh (NotIn.of_rd R0 (Nat.le_refl _))
 have LEkO : Hid (w.heap.size ≤ y1.heap.size) := HB.size
 go_wp2_with (first | refine al_M rfl rfl ?_ | (first | refine lo_Cj kC ?_ | refine lo_cLj kC ?_ | refine lo_cJj kC ?_))
 intro y2 kO e2 s2
 clear s2
 replace kO : Blk _ _ _ (msC zM (.slice none 0 0)) := kO
 replace HB := bt HB e2
 replace kC := kC.b e2
 replace R0 := R0.on e2 e2.size
 clear e2
 generalize y1.heap.size = gkO at *
 have cnx : y2.cell? ⟨w.heap.size, 25 + j, none⟩ = some (.int .i64 nx) := by rw [← hnx.out]; exact cr_nx kC hj9.out
 go_wp2_with (first | refine lo_Cj kC ?_ | refine lo_cLj kC ?_ | refine lo_cJj kC ?_ | refine lo_Mj kO ?_ | refine lo_mJj kO ?_)
 clear cnx
 refine (letter_any c A n p 3 (j : Int) y2).mono ?_
 rintro e y3 ⟨rfl, hY⟩
 replace HB := bt HB hY
 replace kC := kC.b hY
 replace kO := kO.b hY
 replace R0 := R0.on hY hY.size
 clear hY
 have LTkCkM := Lh kC.lt
 have LTkOkM := Lh kO.lt
 have NIR0kM := Lh (NotIn.of_rd R0 (Nat.le_refl _))
 have LEkM : Hid (w.heap.size ≤ y3.heap.size) := HB.size
 go_wp2_with (first | refine al_M rfl rfl ?_ | (first | refine lo_Cj kC ?_ | refine lo_cLj kC ?_ | refine lo_cJj kC ?_ | refine lo_Mj kO ?_ | refine lo_mJj kO ?_))
 intro y4 kM e4 s4
 clear s4
 replace kM : Blk _ _ _ (msC zM (.slice none 0 0)) := kM
 replace HB := bt HB e4
 replace kC := kC.b e4
 replace kO := kO.b e4
 replace R0 := R0.on e4 e4.size
 clear e4
 generalize y3.heap.size = gkM at *
 go_wp2_with (first | refine st_M rfl _ _ rfl (letM c 3 (j : Int)) none 0 0 rfl rfl _ kM rfl ?_ | (first | refine lo_Cj kC ?_ | refine lo_cLj kC ?_ | refine lo_cJj kC ?_ | refine lo_Mj kO ?_ | refine lo_mJj kO ?_ | refine lo_Mj kM ?_ | refine lo_mJj kM ?_))
 intro y5 kM2 pO
 replace kC := kC.put pO (Nat.ne_of_lt LTkCkM.out)
 replace kO := kO.put pO (Nat.ne_of_lt LTkOkM.out)
 replace R0 := R0.putS pO NIR0kM.out
 replace HB := pO.below _ _ HB LEkM.out
 clear kM
 have kM := kM2
 clear kM2 pO
 go_upto_region 3 with (first | refine lo_Cj kC ?_ | refine lo_cLj kC ?_ | refine lo_cJj kC ?_ | refine lo_Mj kO ?_ | refine lo_mJj kO ?_ | refine lo_Mj kM ?_ | refine lo_mJj kM ?_)
 refine wp_region_held_drew (S := fun wq => wq.cell? ⟨w.heap.size, 6, none⟩ = some (.int .i64 cm) ∧ wq.cell? ⟨w.heap.size, 7, none⟩ = some (.int .i64 sf)) (by kernel_rfl) ?s_snd3 (fun hHeld => ?_)
 case s_snd3 => exact ⟨by rw [← hcm.out]; exact kC.cell 6, by rw [← hsf.out]; exact kC.cell 7⟩
 have hD := (Below.refl y5.heap.size y5).drew
 replace HB := bt HB hD
 replace kC := kC.b hD
 replace kO := kO.b hD
 replace kM := kM.b hD
 replace R0 := R0.on hD hD.size
 clear hD
 generalize y5.drew = y6 at *
 iterate 5 (refine tx 0 _ ?_; try simp only [Act.put, ka, kb, kc])
 refine rr [5] ?_
 refine rc (fun KQ hKQ => ?_) AllReadyH.nil
 have df := fun i => kM.frozen i
 have cR : _ = some _ := kM.cell 6
 go_simp
 clear df cR
 have kM2 : Blk 49 _ gkM (msC { letM c 3 (j : Int) with c := cm } (.slice none 0 0)) := kM.set_ 6 (.int .i64 cm)
 have pO := put_set y6 gkM (6) (.int .i64 cm)
 generalize (y6.setCell ⟨gkM, 6, none⟩ (.int .i64 cm)) = y7 at *
 replace kC := kC.put pO (Nat.ne_of_lt LTkCkM.out)
 replace kO := kO.put pO (Nat.ne_of_lt LTkOkM.out)
 replace R0 := R0.putS pO NIR0kM.out
 replace HB := pO.below _ _ HB LEkM.out
 clear kM
 have kM := kM2
 clear kM2 pO
 refine hKQ.out _ _ (⟨by rw [← hcm.out]; exact kC.cell 6, by rw [← hsf.out]; exact kC.cell 7⟩) (fun _ => ?_)
 clear hKQ KQ
 try simp only [Act.put]
 refine tj 6 _ ?_
 try simp only [Act.put, ka, kb, kc]
 refine rr [7] ?_
 refine rc (fun KQ hKQ => ?_) AllReadyH.nil
 have df := fun i => kM.frozen i
 have cR : _ = some _ := kM.cell 7
 go_simp
 clear df cR
 have kM2 : Blk 49 _ gkM (msC { letM c 3 (j : Int) with c := cm, s := sf } (.slice none 0 0)) := kM.set_ 7 (.int .i64 sf)
 have pO := put_set y7 gkM (7) (.int .i64 sf)
 generalize (y7.setCell ⟨gkM, 7, none⟩ (.int .i64 sf)) = y8 at *
 replace kC := kC.put pO (Nat.ne_of_lt LTkCkM.out)
 replace kO := kO.put pO (Nat.ne_of_lt LTkOkM.out)
 replace R0 := R0.putS pO NIR0kM.out
 replace HB := pO.below _ _ HB LEkM.out
 clear kM
 have kM := kM2
 clear kM2 pO
 refine hKQ.out _ _ (⟨by rw [← hcm.out]; exact kC.cell 6, by rw [← hsf.out]; exact kC.cell 7⟩) (fun _ => ?_)
 clear hKQ KQ
 try simp only [Act.put]
 refine wpAnyH_done (by kernel_rfl) ?_ _
 have cb : y8.cell? ⟨w.heap.size, 8, none⟩ = some (.int .i64 b) := by rw [← hb0.out]; exact kC.cell 8
 by_cases hle : nx ≤ b
 ·
  have hE := Lh (hS1.out hle)
  replace hle := Lh hle
  have cle : nx ≤ b := hle.out
  go_upto_region 5 with (first | refine lo_Cj kC ?_ | refine lo_cLj kC ?_ | refine lo_cJj kC ?_ | refine lo_Mj kO ?_ | refine lo_mJj kO ?_ | refine lo_Mj kM ?_ | refine lo_mJj kM ?_)
  clear cb cle
  refine wp_region_held_drew (S := fun wq => wq.cell? ⟨w.heap.size, 8, none⟩ = some (.int .i64 b) ∧ wq.cell? ⟨w.heap.size, 9, none⟩ = some (.int .i64 t)) (by kernel_rfl) ?s_snd5 (fun hHeld => ?_)
  case s_snd5 => exact ⟨by rw [← hb0.out]; exact kC.cell 8, by rw [← ht0.out]; exact kC.cell 9⟩
  have hD := (Below.refl y8.heap.size y8).drew
  replace HB := bt HB hD
  replace kC := kC.b hD
  replace kO := kO.b hD
  replace kM := kM.b hD
  replace R0 := R0.on hD hD.size
  clear hD
  generalize y8.drew = y9 at *
  iterate 7 (refine tx 0 _ ?_; try simp only [Act.put, ka, kb, kc])
  refine rr [7] ?_
  refine rc (fun KQ hKQ => ?_) AllReadyH.nil
  have df := fun i => kM.frozen i
  have cR : _ = some _ := kM.cell 0
  go_simp
  clear df cR
  have kM2 : Blk 49 _ gkM (msC { letM c 3 (j : Int) with c := cm, s := sf, k := 5 } (.slice none 0 0)) := kM.set_ 0 (.int .i64 5)
  have pO := put_set y9 gkM (0) (.int .i64 5)
  generalize (y9.setCell ⟨gkM, 0, none⟩ (.int .i64 5)) = y10 at *
  replace kC := kC.put pO (Nat.ne_of_lt LTkCkM.out)
  replace kO := kO.put pO (Nat.ne_of_lt LTkOkM.out)
  replace R0 := R0.putS pO NIR0kM.out
  replace HB := pO.below _ _ HB LEkM.out
  clear kM
  have kM := kM2
  clear kM2 pO
  refine hKQ.out _ _ (⟨by rw [← hb0.out]; exact kC.cell 8, by rw [← ht0.out]; exact kC.cell 9⟩) (fun _ => ?_)
  clear hKQ KQ
  try simp only [Act.put]
  refine tj 8 _ ?_
  try simp only [Act.put, ka, kb, kc]
  refine rr [9] ?_
  refine rc (fun KQ hKQ => ?_) AllReadyH.nil
  have df := fun i => kM.frozen i
  have cR : _ = some _ := kM.cell 4
  go_simp
  clear df cR
  have kM2 : Blk 49 _ gkM (msC { letM c 3 (j : Int) with c := cm, s := sf, k := 5, i := b } (.slice none 0 0)) := kM.set_ 4 (.int .i64 b)
  have pO := put_set y10 gkM (4) (.int .i64 b)
  generalize (y10.setCell ⟨gkM, 4, none⟩ (.int .i64 b)) = y11 at *
  replace kC := kC.put pO (Nat.ne_of_lt LTkCkM.out)
  replace kO := kO.put pO (Nat.ne_of_lt LTkOkM.out)
  replace R0 := R0.putS pO NIR0kM.out
  replace HB := pO.below _ _ HB LEkM.out
  clear kM
  have kM := kM2
  clear kM2 pO
  refine hKQ.out _ _ (⟨by rw [← hb0.out]; exact kC.cell 8, by rw [← ht0.out]; exact kC.cell 9⟩) (fun _ => ?_)
  clear hKQ KQ
  try simp only [Act.put]
  refine tj 10 _ ?_
  try simp only [Act.put, ka, kb, kc]
  refine rr [11] ?_
  refine rc (fun KQ hKQ => ?_) AllReadyH.nil
  have df := fun i => kM.frozen i
  have cR : _ = some _ := kM.cell 5
  go_simp
  clear df cR
  have kM2 : Blk 49 _ gkM (msC { letM c 3 (j : Int) with c := cm, s := sf, k := 5, i := b, lt := t } (.slice none 0 0)) := kM.set_ 5 (.int .i64 t)
  have pO := put_set y11 gkM (5) (.int .i64 t)
  generalize (y11.setCell ⟨gkM, 5, none⟩ (.int .i64 t)) = y12 at *
  replace kC := kC.put pO (Nat.ne_of_lt LTkCkM.out)
  replace kO := kO.put pO (Nat.ne_of_lt LTkOkM.out)
  replace R0 := R0.putS pO NIR0kM.out
  replace HB := pO.below _ _ HB LEkM.out
  clear kM
  have kM := kM2
  clear kM2 pO
  refine hKQ.out _ _ (⟨by rw [← hb0.out]; exact kC.cell 8, by rw [← ht0.out]; exact kC.cell 9⟩) (fun _ => ?_)
  clear hKQ KQ
  try simp only [Act.put]
  refine wpAnyH_done (by kernel_rfl) ?_ _
  go_upto_region 6 with (first | refine lo_Cj kC ?_ | refine lo_cLj kC ?_ | refine lo_cJj kC ?_ | refine lo_Mj kO ?_ | refine lo_mJj kO ?_ | refine lo_Mj kM ?_ | refine lo_mJj kM ?_)
  refine wp_region_held_drew (S := fun wq => Blk 33 wq w.heap.size (crC c (.slice A n p)) ∧ wq.cell? ⟨w.heap.size, 22, none⟩ = some (.string sn)) (by kernel_rfl) ?s_snd6 (fun hHeld => ?_)
  case s_snd6 => exact ⟨kC, by rw [← hsn.out]; exact kC.cell 22⟩
  have hD := (Below.refl y12.heap.size y12).drew
  replace HB := bt HB hD
  replace kC := kC.b hD
  replace kO := kO.b hD
  replace kM := kM.b hD
  replace R0 := R0.on hD hD.size
  clear hD
  generalize y12.drew = y13 at *
  iterate 4 (refine tx 0 _ ?_; try simp only [Act.put, ka, kb, kc])
  refine tj 4 _ ?_ (hy := fun wq hSw => rld_cJ rfl rfl (And.left hSw))
  try simp only [Act.put, ka, kb, kc]
  refine tj 5 _ ?_
  try simp only [Act.put, ka, kb, kc]
  refine rr [6] ?_
  refine rc (fun KQ hKQ => ?_) AllReadyH.nil
  have df := fun i => kM.frozen i
  have cR : _ = some _ := kM.cell 10
  go_simp
  clear df cR
  have kM2 : Blk 49 _ gkM (msC { letM c 3 (j : Int) with c := cm, s := sf, k := 5, i := b, lt := t, d := sn } (.slice none 0 0)) := kM.set_ 10 (.string sn)
  have pO := put_set y13 gkM (10) (.string sn)
  generalize (y13.setCell ⟨gkM, 10, none⟩ (.string sn)) = y14 at *
  replace kC := kC.put pO (Nat.ne_of_lt LTkCkM.out)
  replace kO := kO.put pO (Nat.ne_of_lt LTkOkM.out)
  replace R0 := R0.putS pO NIR0kM.out
  replace HB := pO.below _ _ HB LEkM.out
  clear kM
  have kM := kM2
  clear kM2 pO
  refine hKQ.out _ _ (⟨kC, by rw [← hsn.out]; exact kC.cell 22⟩) (fun _ => ?_)
  clear hKQ KQ
  try simp only [Act.put]
  refine tj 7 _ ?_
  try simp only [Act.put, ka, kb, kc]
  refine rr [8] ?_
  refine rc (fun KQ hKQ => ?_) AllReadyH.nil
  refine step_stAt rfl 27 _ _ rfl (cells := (jC c.lg.j).toArray) (msC { letM c 3 (j : Int) with c := cm, s := sf, k := 5, i := b, lt := t, d := sn, j := c.lg.j } (.slice none 0 0)) rfl rfl kM sizeJv (by show 11 + 11 ≤ 22; omega) (j_one _) rfl ?_
  intro y15 kM2 pO
  replace kC := kC.put pO (Nat.ne_of_lt LTkCkM.out)
  replace kO := kO.put pO (Nat.ne_of_lt LTkOkM.out)
  replace R0 := R0.putS pO NIR0kM.out
  replace HB := pO.below _ _ HB LEkM.out
  clear kM
  have kM := kM2
  clear kM2 pO
  refine hKQ.out _ _ (⟨kC, by rw [← hsn.out]; exact kC.cell 22⟩) (fun _ => ?_)
  clear hKQ KQ
  try simp only [Act.put]
  refine wpAnyH_done (by kernel_rfl) ?_ _
  have hEe : Hid ({ letM c 3 (j : Int) with c := cm, s := sf, k := 5, i := b, lt := t, d := sn, j := c.lg.j } = sendF c (j : Int)) := by show _ = _; rw [hE.out, ht0.out, hcm.out, hsf.out, hsn.out]; rfl
  rw [hEe.out] at kM
  go_wp2_with (first | refine st_M rfl _ _ rfl (sendF c (j : Int)) none 0 0 rfl rfl _ kO rfl ?_ | (first | refine lo_Cj kC ?_ | refine lo_cLj kC ?_ | refine lo_cJj kC ?_ | refine lo_Mj kO ?_ | refine lo_mJj kO ?_ | refine lo_Mj kM ?_ | refine lo_mJj kM ?_))
  intro y16 kO2 pO
  replace kC := kC.put pO (Nat.ne_of_lt LTkCkO.out)
  replace kM := kM.put pO (Nat.ne_of_gt LTkOkM.out)
  replace R0 := R0.putS pO NIR0kO.out
  replace HB := pO.below _ _ HB LEkO.out
  clear kO
  have kO := kO2
  clear kO2 pO
  go_wp2_with (first | refine lo_Cj kC ?_ | refine lo_cLj kC ?_ | refine lo_cJj kC ?_ | refine lo_Mj kO ?_ | refine lo_mJj kO ?_ | refine lo_Mj kM ?_ | refine lo_mJj kM ?_)
  (try simp only [Exit.inBlock, Exit.then])
  refine bodyPost_ret (res1 Tryz.results132 rfl (aggM _) (sizeM _) (ldMv kO)) rfl ?_
  exact ⟨none, 0, 0, rfl, (by rw [hE.out]; exact OwnE.nil _ _), HB⟩
 ·
  have hE := Lh (hS2.out (Int.not_le.1 hle))
  have cle : ¬ nx ≤ b := hle
  replace hle := Lh hle
  have w1 : IntKind.i64.wrap (nx - 1) = nx - 1 := by have := hx.out; rw [wrap_sm (by omega) (by omega)]
  have df := fun i => kM.frozen i
  have cR4 : _ = some _ := kM.cell 4
  go_upto_region 9 with (fail)
  clear df cR4
  have kM2 : Blk 49 _ gkM (msC { letM c 3 (j : Int) with c := cm, s := sf, i := nx - 1 } (.slice none 0 0)) := kM.set_ 4 (.int .i64 (nx - 1))
  have pO := put_set y8 gkM (4) (.int .i64 (nx - 1))
  generalize (y8.setCell ⟨gkM, 4, none⟩ (.int .i64 (nx - 1))) = y9 at *
  replace kC := kC.put pO (Nat.ne_of_lt LTkCkM.out)
  replace kO := kO.put pO (Nat.ne_of_lt LTkOkM.out)
  replace R0 := R0.putS pO NIR0kM.out
  replace HB := pO.below _ _ HB LEkM.out
  clear kM
  have kM := kM2
  clear kM2 pO
  clear cb cle
  have cm4 : y9.cell? ⟨gkM, 4, none⟩ = some (.int .i64 (nx - 1)) := by exact kM.cell 4
  go_wp2_with (first | refine lo_Cj kC ?_ | refine lo_cLj kC ?_ | refine lo_cJj kC ?_ | refine lo_Mj kO ?_ | refine lo_mJj kO ?_ | refine lo_Mj kM ?_ | refine lo_mJj kM ?_)
  clear cm4
  obtain ⟨tv, htv⟩ : ∃ q, (termF c.lg (nx - 1)).1 = q := ⟨_, rfl⟩
  rw [htv] at hE
  have CC := enti.term_any c.lg A n p (nx - 1) y9 y9.heap.size R0 (Nat.le_refl _) hp HF.out
  rw [htv] at CC
  clear htv
  refine (CC).mono ?_
  rintro e y10 ⟨rfl, hY⟩
  replace HB := bt HB hY
  replace kC := kC.b hY
  replace kO := kO.b hY
  replace kM := kM.b hY
  replace R0 := R0.on hY hY.size
  clear hY
  clear CC
  have df := fun i => kM.frozen i
  have cR5 : _ = some _ := kM.cell 5
  go_upto_region 10 with (fail)
  clear df cR5
  have kM2 : Blk 49 _ gkM (msC { letM c 3 (j : Int) with c := cm, s := sf, i := nx - 1, lt := tv } (.slice none 0 0)) := kM.set_ 5 (.int .i64 tv)
  have pO := put_set y10 gkM (5) (.int .i64 tv)
  generalize (y10.setCell ⟨gkM, 5, none⟩ (.int .i64 tv)) = y11 at *
  replace kC := kC.put pO (Nat.ne_of_lt LTkCkM.out)
  replace kO := kO.put pO (Nat.ne_of_lt LTkOkM.out)
  replace R0 := R0.putS pO NIR0kM.out
  replace HB := pO.below _ _ HB LEkM.out
  clear kM
  have kM := kM2
  clear kM2 pO
  go_wp2_with (first | refine lo_Cj kC ?_ | refine lo_cLj kC ?_ | refine lo_cJj kC ?_ | refine lo_Mj kO ?_ | refine lo_mJj kO ?_ | refine lo_Mj kM ?_ | refine lo_mJj kM ?_)
  refine (enti.slice_any c.lg A n p nx 8 y11 y11.heap.size R0 (Nat.le_refl _) hp HF.out (by have := hx.out; unfold In64; omega) (by unfold In64; omega)).mono ?_
  rintro e y12 ⟨A5, n5, p5, rfl, hn5, hO, hY⟩
  replace hn5 := Lh hn5
  have hb5 := Lh HB.size
  have gl5 := Lh kM.lt
  have gl6 := Lh kO.lt
  replace HB := bt HB hY
  replace kC := kC.b hY
  replace kO := kO.b hY
  replace kM := kM.b hY
  replace R0 := R0.on hY hY.size
  clear hY
  have df := fun i => kM.frozen i
  have cR9 : _ = some _ := kM.cell 9
  go_upto_region 11 with (fail)
  clear df cR9
  have kM2 : Blk 49 _ gkM (msC { letM c 3 (j : Int) with c := cm, s := sf, i := nx - 1, lt := tv, es := sliceF c.lg nx 8 } (.slice A5 n5 p5)) := kM.set_ 9 (.slice A5 n5 p5)
  have pO := put_set y12 gkM (9) (.slice A5 n5 p5)
  generalize (y12.setCell ⟨gkM, 9, none⟩ (.slice A5 n5 p5)) = y13 at *
  replace kC := kC.put pO (Nat.ne_of_lt LTkCkM.out)
  replace kO := kO.put pO (Nat.ne_of_lt LTkOkM.out)
  replace R0 := R0.putS pO NIR0kM.out
  replace hO := hO.put pO gl5.out
  replace HB := pO.below _ _ HB LEkM.out
  clear kM
  have kM := kM2
  clear kM2 pO
  have hEe : Hid ({ letM c 3 (j : Int) with c := cm, s := sf, i := nx - 1, lt := tv, es := sliceF c.lg nx 8 } = sendF c (j : Int)) := by show _ = _; rw [hE.out, hcm.out, hsf.out]; rfl
  rw [hEe.out] at kM
  have hes : (sendF c (j : Int)).es = sliceF c.lg nx 8 := by rw [← hEe.out]
  replace hes := Lh hes
  go_wp2_with (first | refine st_M rfl _ _ rfl (sendF c (j : Int)) A5 n5 p5 rfl rfl _ kO rfl ?_ | (first | refine lo_Cj kC ?_ | refine lo_cLj kC ?_ | refine lo_cJj kC ?_ | refine lo_Mj kO ?_ | refine lo_mJj kO ?_ | refine lo_Mj kM ?_ | refine lo_mJj kM ?_))
  intro y14 kO2 pO
  replace kC := kC.put pO (Nat.ne_of_lt LTkCkO.out)
  replace kM := kM.put pO (Nat.ne_of_gt LTkOkM.out)
  replace R0 := R0.putS pO NIR0kO.out
  replace hO := hO.put pO gl6.out
  replace HB := pO.below _ _ HB LEkO.out
  clear kO
  have kO := kO2
  clear kO2 pO
  go_wp2_with (first | refine lo_Cj kC ?_ | refine lo_cLj kC ?_ | refine lo_cJj kC ?_ | refine lo_Mj kO ?_ | refine lo_mJj kO ?_ | refine lo_Mj kM ?_ | refine lo_mJj kM ?_)
  (try simp only [Exit.inBlock, Exit.then])
  refine bodyPost_ret (res1 Tryz.results132 rfl (aggM _) (sizeM _) (ldMv kO)) rfl ?_
  exact ⟨A5, n5, p5, rfl, (by rw [hes.out]; exact hO.more hb5.out), HB⟩
end Go.Proofs.YtegnfkbmlalkeaaGreat.cor
