/- The landed core: win. Conditions: those that the theorems name. -/
import Derived.Deep.RegionHeld3
import Derived.Deep.Cut
import Derived.Lib.Hide
import Derived.Test.YtegnfkbmlalkeaaGreatSpKitCl
import Derived.Test.YtegnfkbmlalkeaaGreatSpCorI13
import Derived.Test.YtegnfkbmlalkeaaGreatSpJ5
import Derived.Test.YtegnfkbmlalkeaaGreatSpJ2
import Derived.Test.YtegnfkbmlalkeaaGreatSpKitLg
import Derived.Test.YtegnfkbmlalkeaaGreatSpJ0
set_option linter.unusedVariables false
set_option maxHeartbeats 16000000
set_option maxRecDepth 10000
namespace Go.Proofs.YtegnfkbmlalkeaaGreat.cor
open Go Go.RowKit kit nums cf lg cr se
theorem sizeTv : (Tryz.prog.info? 31).map (·.size) = some 10 := by kernel_rfl
theorem a10_one (f : Nat → Int) : (a10C f).all (·.oneCell') = true := rfl
theorem bd_a0 {w : World} {ops : Array Oper} {rest : List Oper} {o : Oper} {a : Act} {Q : Exit → Act → World → Prop} (ho : o.op = .build 31 #[]) (hw : Region.wanted o (yielded ops a.tmps) = true)
  (h : wpList Tryz.prog ops Q rest (a.put o.dst (a10V z10)) w) : wpList Tryz.prog ops Q (o :: rest) a w := by
 refine wpList_val hw ?_ h
 have hr : (Instr.build 31 #[]).run Tryz.prog w = .ok (a10V z10) w := by kernel_rfl
 unfold execOp
 simp [ho, hr]
theorem cr_ext {c : CoL} {f f' : Nat → Int} (hf : ∀ k, k < 10 → f k = f' k) (s : Value) : crC { c with nx := f } s = crC { c with nx := f' } s := by
 simp only [crC, hf 0 (by omega), hf 1 (by omega), hf 2 (by omega), hf 3 (by omega), hf 4 (by omega), hf 5 (by omega), hf 6 (by omega), hf 7 (by omega), hf 8 (by omega), hf 9 (by omega)]
def cW (c : CoL) : CoL := { c with ro := 2, le := c.id, wa := 0, he := 0 }
def cM (c : CoL) : CoL := { cW c with mt := z10 }
def cN (c : CoL) (v : Int) (k : Nat) : CoL := { cM c with nx := fun i => if i < k then v else c.nx i }
theorem cN_zero (c : CoL) (v : Int) : cN c v 0 = cM c := by
 have h : (fun i => if i < 0 then v else c.nx i) = c.nx := by funext i; simp
 unfold cN; rw [h]; rfl
theorem cN_next (c : CoL) (v : Int) (k : Nat) : { cN c v k with nx := upd (cN c v k).nx k v } = cN c v (k + 1) := by
 show { cM c with nx := upd (fun i => if i < k then v else c.nx i) k v } = { cM c with nx := fun i => if i < k + 1 then v else c.nx i }
 rw [ref13.upd_lt]
theorem cN_all (c : CoL) (s : Value) : crC (cN c (lastF c.lg + 1) 10) s = crC (ref13.leadA c) s := cr_ext (c := cM c) (fun k hk => by simp [hk]) s
theorem mt_lead {c : CoL} (h : 0 ≤ lastF c.lg) : Mt (pushC (ref13.leadA c) zE) := mt_push (fun k _ => ⟨Int.le_refl _, h⟩)
theorem cou_id (c : CoL) : (couC c).id = c.id := by
 rw [ref13.couC_N]
 unfold ref13.couN
 dsimp only
 split
 · unfold ref13.couN; rw [ref13.endC_id]; rfl
 · rw [ref13.endC_id]; rfl
theorem win_any (c : CoL) (A : Option Addr) (n p : Nat) (w : World) (B : Nat) (hR : RdE w B A n c.lg.es) (hB : B ≤ w.heap.size) (hp : n ≤ p) (hg : GoodN c 700000) (h1 : 1 ≤ c.id) (hl2 : lastF c.lg ≤ 2199023255550) : Calls Tryz.prog 119 #[crV c (.slice A n p)] w fun e w' => ∃ A' n' p' v B', e = .returned (.tuple #[crV (winC c) (.slice A' n' p'), v]) ∧ RdE w' B' A' n' (winC c).lg.es ∧ n' ≤ p' ∧ OldNew w.heap.size A n A' n' ∧ OutL w' B' v (allF (winC c)) ∧ w.heap.size ≤ B' ∧ B' ≤ w'.heap.size ∧ Below w.heap.size w w' := by
 have HF := Lh hg.1
 have HG := Lh hg
 have hid := Lh (show 1 ≤ c.id ∧ c.id ≤ 9 from ⟨h1, hg.2.2.2.1⟩)
 have hlen := Lh hR.len
 have hla0 : 0 ≤ lastF c.lg := by have := hg.1.1; unfold lastF; omega
 obtain ⟨la, hla⟩ : ∃ q, lastF c.lg = q := ⟨_, rfl⟩
 rw [hla] at hl2 hla0
 have hMl := Lh (mt_lead (c := c) (by rw [hla]; exact hla0))
 have hwi : Hid (winC c = couC (pushC (ref13.leadA c) zE)) := rfl
 have hGl := Lh (ref13.good_lead hg)
 have hGm := Lh (ref13.good_more hGl.out (show 700001 ≤ 800000 by omega))
 have wl : IntKind.i64.wrap (la + 1) = la + 1 := by rw [wrap_sm (by omega) (by omega)]
 obtain ⟨idv, hidv⟩ : ∃ q, c.id = q := ⟨_, rfl⟩
 clear hg
 replace hla := Lh hla
 replace hl2 := Lh hl2
 replace hla0 := Lh hla0
 replace hidv := Lh hidv
 have R0 := hR.more hB
 clear hR hB
 go_enter Tryz.func119, Tryz.ntmps119
 have NIR0kC := Lh (NotIn.of_rd R0 (Nat.le_refl _))
 have LEkC : Hid (w.heap.size ≤ w.heap.size) := Nat.le_refl _
 go_wp2_with (first | refine box_C rfl _ rfl c (.slice A n p) rfl ?_ | fail)
 intro y1 kC e1 s1
 clear s1
 have HB := e1
 replace R0 := R0.on e1 e1.size
 clear e1
 have LTkCkO := Lh kC.lt
 have NIR0kO := Lh (NotIn.of_rd R0 (Nat.le_refl _))
 have LEkO : Hid (w.heap.size ≤ y1.heap.size) := HB.size
 go_wp2_with (first | refine al_C rfl rfl ?_ | (first | refine lo_Cj kC ?_ | refine lo_cLj kC ?_ | refine lo_cJj kC ?_))
 intro y2 kO e2 s2
 clear s2
 replace kO : Blk _ _ _ (crC zC (.slice none 0 0)) := kO
 replace HB := bt HB e2
 replace kC := kC.b e2
 replace R0 := R0.on e2 e2.size
 clear e2
 generalize y1.heap.size = gkO at *
 have c0 : y2.cell? ⟨w.heap.size, 0, none⟩ = some (.int .i64 idv) := by rw [← hidv.out]; exact kC.cell 0
 have df := fun i => kC.frozen i
 have cR1 : _ = some _ := kC.cell 1
 have cR4 : _ = some _ := kC.cell 4
 have cR5 : _ = some _ := kC.cell 5
 have cR24 : _ = some _ := kC.cell 24
 go_upto_region 2 with (fail)
 clear df cR1 cR4 cR5 cR24
 have kC2 : Blk 33 _ w.heap.size (crC { c with ro := 2 } (.slice A n p)) := kC.set_ 1 (.int .i64 2)
 have pO := put_set y2 w.heap.size (1) (.int .i64 2)
 generalize (y2.setCell ⟨w.heap.size, 1, none⟩ (.int .i64 2)) = y3 at *
 replace kO := kO.put pO (Nat.ne_of_gt LTkCkO.out)
 replace R0 := R0.putS pO NIR0kC.out
 replace HB := pO.below _ _ HB LEkC.out
 clear kC
 have kC := kC2
 clear kC2 pO
 have kC2 : Blk 33 _ w.heap.size (crC { c with ro := 2, le := idv } (.slice A n p)) := kC.set_ 4 (.int .i64 idv)
 have pO := put_set y3 w.heap.size (4) (.int .i64 idv)
 generalize (y3.setCell ⟨w.heap.size, 4, none⟩ (.int .i64 idv)) = y4 at *
 replace kO := kO.put pO (Nat.ne_of_gt LTkCkO.out)
 replace R0 := R0.putS pO NIR0kC.out
 replace HB := pO.below _ _ HB LEkC.out
 clear kC
 have kC := kC2
 clear kC2 pO
 have kC2 : Blk 33 _ w.heap.size (crC { c with ro := 2, le := idv, wa := 0 } (.slice A n p)) := kC.set_ 5 (.int .i64 0)
 have pO := put_set y4 w.heap.size (5) (.int .i64 0)
 generalize (y4.setCell ⟨w.heap.size, 5, none⟩ (.int .i64 0)) = y5 at *
 replace kO := kO.put pO (Nat.ne_of_gt LTkCkO.out)
 replace R0 := R0.putS pO NIR0kC.out
 replace HB := pO.below _ _ HB LEkC.out
 clear kC
 have kC := kC2
 clear kC2 pO
 have kC2 : Blk 33 _ w.heap.size (crC { c with ro := 2, le := idv, wa := 0, he := 0 } (.slice A n p)) := kC.set_ 24 (.int .u16 0)
 have pO := put_set y5 w.heap.size (24) (.int .u16 0)
 generalize (y5.setCell ⟨w.heap.size, 24, none⟩ (.int .u16 0)) = y6 at *
 replace kO := kO.put pO (Nat.ne_of_gt LTkCkO.out)
 replace R0 := R0.putS pO NIR0kC.out
 replace HB := pO.below _ _ HB LEkC.out
 clear kC
 have kC := kC2
 clear kC2 pO
 clear c0
 have hcW : { c with ro := 2, le := idv, wa := 0, he := 0 } = cW c := by rw [← hidv.out]; rfl
 rw [hcW] at kC
 clear hcW
 go_wp2_with (first | refine bd_a0 rfl rfl ?_ | refine wpList_stAt rfl 31 _ _ rfl (cells := (a10C z10).toArray) (crC (cM c) (.slice A n p)) rfl rfl kC sizeTv (by show 35 + 10 ≤ 45; omega) (a10_one _) rfl ?_ | (first | refine lo_Cj kC ?_ | refine lo_cLj kC ?_ | refine lo_cJj kC ?_ | refine lo_Cj kO ?_ | refine lo_cLj kO ?_ | refine lo_cJj kO ?_))
 intro y7 kC2 pO
 replace kO := kO.put pO (Nat.ne_of_gt LTkCkO.out)
 replace R0 := R0.putS pO NIR0kC.out
 replace HB := pO.below _ _ HB LEkC.out
 clear kC
 have kC := kC2
 clear kC2 pO
 have BO := Lh kO
 have BR0 := Lh R0
 rw [← cN_zero c (la + 1)] at kC
 have BC0 := Lh kC
 have BH := Lh HB
 clear kO R0 kC HB
 go_wp2_with fail
 go_loopw [13] (fun iv wr => ∃ k : Nat, k ≤ 10 ∧ iv = .int .i64 (k : Int) ∧ Hid (Blk 33 wr w.heap.size (crC (cN c (la + 1) k) (.slice A n p))) ∧ Hid (Blk 33 wr gkO (crC zC (.slice none 0 0))) ∧ Hid (RdE wr wr.heap.size A n c.lg.es) ∧ Hid (Below w.heap.size w wr)) (fun iv _ => 10 - (intOf iv).toNat)
 case atStart => exact ⟨0, by omega, rfl, BC0, BO, BR0, BH⟩
 case round =>
  obtain ⟨k, hk, rfl, HC, HO, HR, HW⟩ := hrel
  clear BC0 BO BR0 BH
  by_cases hk10 : k < 10
  ·
   have kC := HC.out
   have kO := HO.out
   have R0 := HR.out
   have HB := HW.out
   clear HC HO HR HW
   have ck : (k : Int) < 10 := by omega
   have c0k : (0 : Int) ≤ (k : Int) := by omega
   have wk : IntKind.i64.wrap ((k : Int) + 1) = ((k + 1 : Nat) : Int) := by rw [wrap_sm (by omega) (by omega)]; omega
   have hk10h := Lh hk10
   go_wp2_with (first | refine lo_Cj kC ?_ | refine lo_cLj kC ?_ | refine lo_cJj kC ?_ | refine lo_Cj kO ?_ | refine lo_cLj kO ?_ | refine lo_cJj kO ?_)
   have CC := enti.last_any c.lg A n p wr hlen.out HF.out
   rw [hla.out] at CC
   refine (CC).mono ?_
   rintro e y61 ⟨rfl, hY⟩
   replace HB := bt HB hY
   replace kC := kC.b hY
   replace kO := kO.b hY
   replace R0 := R0.on hY hY.size
   clear hY
   clear CC
   have df := fun i => kC.frozen i
   have cR : y61.cell? ⟨w.heap.size, 25 + k, none⟩ = some (.int .i64 ((cN c (la + 1) k).nx k)) := cr_nx kC hk10h.out
   go_wp2_with fail
   clear df cR
   have kC2 := crset_nx kC hk10h.out (la + 1)
   rw [cN_next] at kC2
   have pO := put_set y61 w.heap.size (25 + k) (.int .i64 (la + 1))
   generalize (y61.setCell ⟨w.heap.size, 25 + k, none⟩ (.int .i64 (la + 1))) = y70 at *
   replace kO := kO.put pO (Nat.ne_of_gt LTkCkO.out)
   replace R0 := R0.putS pO NIR0kC.out
   replace HB := pO.below _ _ HB LEkC.out
   clear kC
   have kC := kC2
   clear kC2 pO
   have HB2 := Lh HB
   have kC2 := Lh kC
   have kO2 := Lh kO
   have R2 := Lh R0
   clear HB kC kO R0
   go_roundw
   case rel => exact ⟨k + 1, by omega, rfl, kC2, kO2, R2, HB2⟩
   case measure => simp only [intOf]; omega
  ·
   have kC := HC.out
   have kO := HO.out
   have R0 := HR.out
   have HB := HW.out
   clear HC HO HR HW
   obtain rfl : k = 10 := by omega
   have ck : ¬ (((10 : Nat) : Int) < 10) := by omega
   have hcA := cN_all c (.slice A n p)
   rw [hla.out] at hcA
   rw [hcA] at kC
   clear hcA
   go_wp2_with (first | refine lo_Cj kC ?_ | refine lo_cLj kC ?_ | refine lo_cJj kC ?_ | refine lo_Cj kO ?_ | refine lo_cLj kO ?_ | refine lo_cJj kO ?_ | refine bd_e0 rfl rfl ?_)
   refine (push_any (ref13.leadA c) A n p zE wr wr.heap.size R0 (Nat.le_refl _) hp HF.out hid.out (by have h := HG.out.2.1; show c.lg.es.length ≤ _; omega)).mono ?_
   rintro e y101 ⟨A1, n1, p1, rfl, R1, hp1, ON1, hY⟩
   have NIR1kC := Lh (NIR0kC.out.next ON1 kC.lt)
   have NIR1kO := Lh (NIR0kO.out.next ON1 kO.lt)
   have ON12 := Lh ((OldNew.refl w.heap.size A n).trans ON1 HB.size)
   clear ON1
   replace HB := bt HB hY
   replace kC := kC.b hY
   replace kO := kO.b hY
   replace R0 := R0.on hY hY.size
   clear hY
   go_wp2_with (first | refine lo_Cj kC ?_ | refine lo_cLj kC ?_ | refine lo_cJj kC ?_ | refine lo_Cj kO ?_ | refine lo_cLj kO ?_ | refine lo_cJj kO ?_ | refine bd_e0 rfl rfl ?_)
   refine (count_any (pushC (ref13.leadA c) zE) A1 n1 p1 y101 y101.heap.size R1 (Nat.le_refl _) hp1 hGm.out hMl.out hid.out.1).mono ?_
   rintro e y102 ⟨A2, n2, p2, rfl, R2, hp2, ON2, hY⟩
   have NIR2kC := Lh (NIR1kC.out.next ON2 kC.lt)
   have NIR2kO := Lh (NIR1kO.out.next ON2 kO.lt)
   have ON22 := Lh (ON12.out.trans ON2 HB.size)
   clear ON2
   replace HB := bt HB hY
   replace kC := kC.b hY
   replace kO := kO.b hY
   replace R0 := R0.on hY hY.size
   replace R1 := R1.on hY hY.size
   clear hY
   rw [← hwi.out] at R2
   go_wp2_with (first | refine st_C rfl _ _ rfl (winC c) A2 n2 p2 rfl rfl _ kC rfl ?_ | (first | refine lo_Cj kC ?_ | refine lo_cLj kC ?_ | refine lo_cJj kC ?_ | refine lo_Cj kO ?_ | refine lo_cLj kO ?_ | refine lo_cJj kO ?_))
   intro y103 kC2 pO
   replace kO := kO.put pO (Nat.ne_of_gt LTkCkO.out)
   replace R0 := R0.putS pO NIR0kC.out
   replace R1 := R1.putS pO NIR1kC.out
   replace R2 := R2.putS pO NIR2kC.out
   replace HB := pO.below _ _ HB LEkC.out
   clear kC
   have kC := kC2
   clear kC2 pO
   obtain ⟨ow, how⟩ : ∃ q, winC c = q := ⟨_, rfl⟩
   have hGw : Hid (GoodN ow 700002) := by show GoodN _ _; rw [← how, hwi.out]; exact ref13.good_cou hGl.out (by omega)
   have hnw : Hid (ow.nx = fun _ => lastF c.lg + 1) := by show _ = _; rw [← how, hwi.out, ref13.couC_nx]; rfl
   have hiw : Hid (ow.id = c.id) := by show _ = _; rw [← how, hwi.out, cou_id]; rfl
   rw [how] at kC R2
   replace how := Lh how
   go_upto_region 9 with (first | refine lo_Cj kC ?_ | refine lo_cLj kC ?_ | refine lo_cJj kC ?_ | refine lo_Cj kO ?_ | refine lo_cLj kO ?_ | refine lo_cJj kO ?_)
   refine wp_region_held_drew (S := fun wq => Blk 33 wq w.heap.size (crC ow (.slice A2 n2 p2))) (by kernel_rfl) ?s_win9 (fun hHeld => ?_)
   case s_win9 => exact kC
   have hD := (Below.refl y103.heap.size y103).drew
   replace HB := bt HB hD
   replace kC := kC.b hD
   replace kO := kO.b hD
   replace R0 := R0.on hD hD.size
   replace R1 := R1.on hD hD.size
   replace R2 := R2.on hD hD.size
   clear hD
   generalize y103.drew = y104 at *
   refine tj 0 _ ?_ (hy := fun wq hSw => rld_C rfl rfl (id hSw))
   try simp only [Act.put, ka, kb, kc]
   refine tj 1 _ ?_ (hy := fun wq hSw => rld_C rfl rfl (id hSw))
   try simp only [Act.put, ka, kb, kc]
   refine rr [2] ?_
   refine rc (fun KQ hKQ => ?_) AllReadyH.nil
   go_simp
   refine (sendAll_any ow A2 n2 p2 y104 y104.heap.size R2 (Nat.le_refl _) hp2 hGw.out.1 (by rw [hiw.out]; exact hid.out) hGw.out.2.2.2.2.1 (fun j _ _ => by rw [hnw.out]; show 0 ≤ lastF c.lg + 1 ∧ lastF c.lg + 1 ≤ _; rw [hla.out]; have := hl2.out; have := hla0.out; omega)).mono ?_
   rintro e y105 ⟨A9, n9, c9, B9, rfl, hO, hB9, hB8, hY⟩
   have LBhOkO := Lh (Nat.lt_of_lt_of_le kO.lt hB9)
   have NIRBkO := NIR2kO
   have hB7 := Lh (Nat.le_trans HB.size hB9)
   have RB : RdE y105 B9 _ _ _ := (R2.below hY).more hB9
   have RBz := Lh hB8
   clear hB8 hB9
   replace HB := bt HB hY
   replace kC := kC.b hY
   replace kO := kO.b hY
   replace R0 := R0.on hY hY.size
   replace R1 := R1.on hY hY.size
   replace R2 := R2.on hY hY.size
   clear hY
   go_wp2_with fail
   refine hKQ.out _ _ (kC) (fun _ => ?_)
   clear hKQ KQ
   try simp only [Act.put, ka, kb, kc]
   refine rr [3] ?_
   refine rc (fun KQ hKQ => ?_) AllReadyH.nil
   refine step_stAt rfl 33 _ _ rfl (cells := (crC ow (.slice A2 n2 p2)).toArray) (crC ow (.slice A2 n2 p2)) rfl rfl kO sizeCv (by show 0 + 45 ≤ 45; omega) (cr_one _) rfl ?_
   intro y106 kO2 pO
   replace kC := kC.put pO (Nat.ne_of_lt LTkCkO.out)
   replace R0 := R0.putS pO NIR0kO.out
   replace R1 := R1.putS pO NIR1kO.out
   replace R2 := R2.putS pO NIR2kO.out
   replace hO := hO.put pO LBhOkO.out
   replace RB := RB.putN pO NIRBkO.out
   replace RBz := Lh (Nat.le_trans RBz.out (Nat.le_of_eq pO.size.symm))
   replace HB := pO.below _ _ HB LEkO.out
   clear kO
   have kO := kO2
   clear kO2 pO
   refine hKQ.out _ _ (kC) (fun _ => ?_)
   clear hKQ KQ
   try simp only [Act.put]
   refine tj 4 _ ?_
   try simp only [Act.put, ka, kb, kc]
   refine wpAnyH_done (by kernel_rfl) ?_ _
   go_wp2_with (first | refine lo_Cj kC ?_ | refine lo_cLj kC ?_ | refine lo_cJj kC ?_ | refine lo_Cj kO ?_ | refine lo_cLj kO ?_ | refine lo_cJj kO ?_)
   (try simp only [Exit.inBlock, Exit.then])
   refine bodyPost_ret (res2 Tryz.results119 rfl rfl (aggC _) (sizeC _) (ldCv kO)) rfl ?_
   rw [how.out]
   exact ⟨A2, n2, p2, _, B9, rfl, RB, hp2, ON22.out, hO, hB7.out, RBz.out, HB⟩
end Go.Proofs.YtegnfkbmlalkeaaGreat.cor
