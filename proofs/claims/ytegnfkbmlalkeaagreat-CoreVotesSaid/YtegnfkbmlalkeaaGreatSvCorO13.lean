/- The landed core: lend. Conditions: those that the theorems name. -/
import Derived.Deep.RegionHeld3
import Derived.Deep.Cut
import Derived.Lib.Hide
import Derived.Test.YtegnfkbmlalkeaaGreatSvJ2
import Derived.Test.YtegnfkbmlalkeaaGreatSvCorA13
import Derived.Test.YtegnfkbmlalkeaaGreatSvEntM
import Derived.Test.YtegnfkbmlalkeaaGreatSvKitLg
import Derived.Test.YtegnfkbmlalkeaaGreatSvJ0
namespace Go.Proofs.YtegnfkbmlalkeaaGreat.cor
open Go Go.RowKit Go.Proofs.YtegnfkbmlalkeaaGreat.kit Go.Proofs.YtegnfkbmlalkeaaGreat.nums Go.Proofs.YtegnfkbmlalkeaaGreat.cf Go.Proofs.YtegnfkbmlalkeaaGreat.lg Go.Proofs.YtegnfkbmlalkeaaGreat.cr Go.Proofs.YtegnfkbmlalkeaaGreat.se
set_option linter.unusedVariables false
theorem slice_all {L : LgL} {a k : Int} (h1 : L.es.length ≤ k.toNat) (h2 : L.es.length ≤ 16384) : sliceF L a k = sliceF L a 16384 := by
 unfold sliceF
 rw [List.take_of_length_le (by rw [List.length_drop]; omega), List.take_of_length_le (by rw [List.length_drop]; show _ ≤ 16384; omega)]
def lenM (c : CoL) (m : MsL) : MsL := sayF c m.f { zM with k := 6, i := lendAt c m, lt := (termF c.lg (lendAt c m)).1, es := sliceF c.lg (lendAt c m + 1) 16384 }
theorem len_hit {c : CoL} {m : MsL} (h1 : (termF c.lg m.i).2 = true) (h2 : (termF c.lg m.i).1 = m.lt) : lenM c m = { letM c 6 m.f with i := m.i, lt := (termF c.lg m.i).1, es := sliceF c.lg (m.i + 1) 16384 } := by
 have e : lendAt c m = m.i := if_pos ⟨h1, h2⟩
 unfold lenM; rw [e]; rfl
theorem len_base {c : CoL} {m : MsL} (h : ¬ ((termF c.lg m.i).2 = true ∧ (termF c.lg m.i).1 = m.lt)) : lenM c m = { letM c 6 m.f with i := c.lg.b, lt := c.lg.t, es := sliceF c.lg (c.lg.b + 1) 16384 } := by
 have e : lendAt c m = c.lg.b := if_neg h
 have e2 : termF c.lg c.lg.b = (c.lg.t, true) := if_pos rfl
 unfold lenM; rw [e, e2]; rfl
set_option maxHeartbeats 4000000 in
set_option maxRecDepth 10000 in
theorem lend_any (c : CoL) (A : Option Addr) (n p : Nat) (m : MsL) (Am : Option Addr) (nm pm : Nat) (w : World) (B : Nat) (hR : RdE w B A n c.lg.es) (hB : B ≤ w.heap.size) (hp : n ≤ p) (hf : Fit c.lg) (hi : 0 ≤ m.i ∧ m.i ≤ 1099511627776) (hl : c.lg.es.length ≤ 16384) : Calls Tryz.prog 127 #[crV c (.slice A n p), msV m (.slice Am nm pm)] w fun e w' => ∃ A' n' p', e = .returned (msV (lenM c m) (.slice A' n' p')) ∧ OwnE w' w.heap.size (.slice A' n' p') (lenM c m).es ∧ Below w.heap.size w w' := by
 have HF := Lib.hid hf
 have hi0 := Lib.hid hi
 have hlen := Lib.hid hR.len
 have hl4 := Lib.hid hl
 have hLh := Lib.hid (fun a b => len_hit (c := c) (m := m) a b)
 have hLb := Lib.hid (fun h => len_base (c := c) (m := m) h)
 obtain ⟨mf, hmf⟩ : ∃ q, m.f = q := ⟨_, rfl⟩
 obtain ⟨mi, hmi⟩ : ∃ q, m.i = q := ⟨_, rfl⟩
 obtain ⟨ml, hml⟩ : ∃ q, m.lt = q := ⟨_, rfl⟩
 obtain ⟨b, hb0⟩ : ∃ q, c.lg.b = q := ⟨_, rfl⟩
 obtain ⟨t, ht0⟩ : ∃ q, c.lg.t = q := ⟨_, rfl⟩
 have hb1 : 0 ≤ b ∧ b ≤ 2199023255552 := by rw [← hb0]; exact ⟨hf.1, hf.2.1⟩
 rw [hmf, hmi, hml] at hLh hLb
 rw [hb0, ht0] at hLb
 rw [hmi] at hi0
 clear hf hi hl
 replace hmf := Lib.hid hmf
 replace hmi := Lib.hid hmi
 replace hml := Lib.hid hml
 replace hb0 := Lib.hid hb0
 replace ht0 := Lib.hid ht0
 replace hb1 := Lib.hid hb1
 have R0 := hR.more hB
 clear hR hB
 go_enter Tryz.func127, Tryz.ntmps127
 go_wp2_with (first | refine box_C rfl _ rfl c (.slice A n p) rfl ?_ | fail)
 intro y1 kC e1 s1
 clear s1
 have HB := e1
 replace R0 := R0.on e1 e1.size
 clear e1
 go_wp2_with (first | refine box_M rfl _ rfl m (.slice Am nm pm) rfl ?_ | (first | refine lo_Cj kC ?_ | refine lo_cLj kC ?_ | refine lo_cJj kC ?_))
 intro y2 kM e2 s2
 clear s2
 replace HB := bt HB e2
 replace kC := kC.b e2
 replace R0 := R0.on e2 e2.size
 clear e2
 generalize y1.heap.size = gkM at *
 have LTkCkO := Lib.hid kC.lt
 have LTkMkO := Lib.hid kM.lt
 have NIR0kO := Lib.hid (NotIn.of_rd R0 (Nat.le_refl _))
 have LEkO : Hid (w.heap.size ≤ y2.heap.size) := HB.size
 go_wp2_with (first | refine al_M rfl rfl ?_ | (first | refine lo_Cj kC ?_ | refine lo_cLj kC ?_ | refine lo_cJj kC ?_ | refine lo_Mj kM ?_ | refine lo_mJj kM ?_))
 intro y3 kO e3 s3
 clear s3
 replace kO : Blk _ _ _ (msC zM (.slice none 0 0)) := kO
 replace HB := bt HB e3
 replace kC := kC.b e3
 replace kM := kM.b e3
 replace R0 := R0.on e3 e3.size
 clear e3
 generalize y2.heap.size = gkO at *
 have c_mf : y3.cell? ⟨gkM, 1, none⟩ = some (.int .i64 mf) := by rw [← hmf.out]; exact kM.cell 1
 go_wp2_with (first | refine lo_Cj kC ?_ | refine lo_cLj kC ?_ | refine lo_cJj kC ?_ | refine lo_Mj kM ?_ | refine lo_mJj kM ?_ | refine lo_Mj kO ?_ | refine lo_mJj kO ?_)
 clear c_mf
 refine (letter_any c A n p 6 mf y3).mono ?_
 rintro e y4 ⟨rfl, hY⟩
 replace HB := bt HB hY
 replace kC := kC.b hY
 replace kM := kM.b hY
 replace kO := kO.b hY
 replace R0 := R0.on hY hY.size
 clear hY
 have LTkCkL := Lib.hid kC.lt
 have LTkMkL := Lib.hid kM.lt
 have LTkOkL := Lib.hid kO.lt
 have NIR0kL := Lib.hid (NotIn.of_rd R0 (Nat.le_refl _))
 have LEkL : Hid (w.heap.size ≤ y4.heap.size) := HB.size
 go_wp2_with (first | refine al_M rfl rfl ?_ | (first | refine lo_Cj kC ?_ | refine lo_cLj kC ?_ | refine lo_cJj kC ?_ | refine lo_Mj kM ?_ | refine lo_mJj kM ?_ | refine lo_Mj kO ?_ | refine lo_mJj kO ?_))
 intro y5 kL e5 s5
 clear s5
 replace kL : Blk _ _ _ (msC zM (.slice none 0 0)) := kL
 replace HB := bt HB e5
 replace kC := kC.b e5
 replace kM := kM.b e5
 replace kO := kO.b e5
 replace R0 := R0.on e5 e5.size
 clear e5
 generalize y4.heap.size = gkL at *
 go_wp2_with (first | refine st_M rfl _ _ rfl (letM c 6 mf) none 0 0 rfl rfl _ kL rfl ?_ | (first | refine lo_Cj kC ?_ | refine lo_cLj kC ?_ | refine lo_cJj kC ?_ | refine lo_Mj kM ?_ | refine lo_mJj kM ?_ | refine lo_Mj kO ?_ | refine lo_mJj kO ?_ | refine lo_Mj kL ?_ | refine lo_mJj kL ?_))
 intro y6 kL2 pO
 replace kC := kC.put pO (Nat.ne_of_lt LTkCkL.out)
 replace kM := kM.put pO (Nat.ne_of_lt LTkMkL.out)
 replace kO := kO.put pO (Nat.ne_of_lt LTkOkL.out)
 replace R0 := R0.putS pO NIR0kL.out
 replace HB := pO.below _ _ HB LEkL.out
 clear kL
 have kL := kL2
 clear kL2 pO
 go_upto_region 2 with (first | refine lo_Cj kC ?_ | refine lo_cLj kC ?_ | refine lo_cJj kC ?_ | refine lo_Mj kM ?_ | refine lo_mJj kM ?_ | refine lo_Mj kO ?_ | refine lo_mJj kO ?_ | refine lo_Mj kL ?_ | refine lo_mJj kL ?_)
 refine wp_region_held_drew (S := fun wq => wq.cell? ⟨w.heap.size, 8, none⟩ = some (.int .i64 b) ∧ wq.cell? ⟨w.heap.size, 9, none⟩ = some (.int .i64 t)) (by kernel_rfl) ?s_len2 (fun hHeld => ?_)
 case s_len2 => exact ⟨by rw [← hb0.out]; exact kC.cell 8, by rw [← ht0.out]; exact kC.cell 9⟩
 have hD := (Below.refl y6.heap.size y6).drew
 replace HB := bt HB hD
 replace kC := kC.b hD
 replace kM := kM.b hD
 replace kO := kO.b hD
 replace kL := kL.b hD
 replace R0 := R0.on hD hD.size
 clear hD
 generalize y6.drew = y7 at *
 refine tj 0 _ ?_
 try simp only [Act.put, ka, kb, kc]
 refine tj 1 _ ?_
 try simp only [Act.put, ka, kb, kc]
 refine tj 2 _ ?_
 try simp only [Act.put, ka, kb, kc]
 refine tj 3 _ ?_
 try simp only [Act.put, ka, kb, kc]
 refine tj 4 _ ?_
 try simp only [Act.put, ka, kb, kc]
 refine tj 5 _ ?_
 try simp only [Act.put, ka, kb, kc]
 refine tj 6 _ ?_
 try simp only [Act.put, ka, kb, kc]
 refine rr [7] ?_
 refine rc (fun KQ hKQ => ?_) AllReadyH.nil
 have df := fun i => kL.frozen i
 have cR : _ = some _ := kL.cell 4
 go_simp
 clear df cR
 have kL2 : Blk 49 _ gkL (msC { letM c 6 mf with i := b } (.slice none 0 0)) := kL.set_ 4 (.int .i64 b)
 have pO := put_set y7 gkL (4) (.int .i64 b)
 generalize (y7.setCell ⟨gkL, 4, none⟩ (.int .i64 b)) = y8 at *
 replace kC := kC.put pO (Nat.ne_of_lt LTkCkL.out)
 replace kM := kM.put pO (Nat.ne_of_lt LTkMkL.out)
 replace kO := kO.put pO (Nat.ne_of_lt LTkOkL.out)
 replace R0 := R0.putS pO NIR0kL.out
 replace HB := pO.below _ _ HB LEkL.out
 clear kL
 have kL := kL2
 clear kL2 pO
 refine hKQ.out _ _ (⟨by rw [← hb0.out]; exact kC.cell 8, by rw [← ht0.out]; exact kC.cell 9⟩) (fun _ => ?_)
 clear hKQ KQ
 try simp only [Act.put]
 refine tj 8 _ ?_
 try simp only [Act.put, ka, kb, kc]
 refine rr [9] ?_
 refine rc (fun KQ hKQ => ?_) AllReadyH.nil
 have df := fun i => kL.frozen i
 have cR : _ = some _ := kL.cell 5
 go_simp
 clear df cR
 have kL2 : Blk 49 _ gkL (msC { letM c 6 mf with i := b, lt := t } (.slice none 0 0)) := kL.set_ 5 (.int .i64 t)
 have pO := put_set y8 gkL (5) (.int .i64 t)
 generalize (y8.setCell ⟨gkL, 5, none⟩ (.int .i64 t)) = y9 at *
 replace kC := kC.put pO (Nat.ne_of_lt LTkCkL.out)
 replace kM := kM.put pO (Nat.ne_of_lt LTkMkL.out)
 replace kO := kO.put pO (Nat.ne_of_lt LTkOkL.out)
 replace R0 := R0.putS pO NIR0kL.out
 replace HB := pO.below _ _ HB LEkL.out
 clear kL
 have kL := kL2
 clear kL2 pO
 refine hKQ.out _ _ (⟨by rw [← hb0.out]; exact kC.cell 8, by rw [← ht0.out]; exact kC.cell 9⟩) (fun _ => ?_)
 clear hKQ KQ
 try simp only [Act.put]
 refine wpAnyH_done (by kernel_rfl) ?_ _
 have c_mi : y9.cell? ⟨gkM, 4, none⟩ = some (.int .i64 mi) := by rw [← hmi.out]; exact kM.cell 4
 go_wp2_with (first | refine lo_Cj kC ?_ | refine lo_cLj kC ?_ | refine lo_cJj kC ?_ | refine lo_Mj kM ?_ | refine lo_mJj kM ?_ | refine lo_Mj kO ?_ | refine lo_mJj kO ?_ | refine lo_Mj kL ?_ | refine lo_mJj kL ?_)
 obtain ⟨tv, htv⟩ : ∃ q, (termF c.lg mi).1 = q := ⟨_, rfl⟩
 obtain ⟨tb, htb⟩ : ∃ q, (termF c.lg mi).2 = q := ⟨_, rfl⟩
 rw [htv, htb] at hLh hLb
 have CC := enti.term_any c.lg A n p mi y9 y9.heap.size R0 (Nat.le_refl _) hp HF.out
 rw [htv, htb] at CC
 clear htv htb
 refine (CC).mono ?_
 rintro e y10 ⟨rfl, hY⟩
 replace HB := bt HB hY
 replace kC := kC.b hY
 replace kM := kM.b hY
 replace kO := kO.b hY
 replace kL := kL.b hY
 replace R0 := R0.on hY hY.size
 clear hY
 clear CC c_mi
 have c_ml : y10.cell? ⟨gkM, 5, none⟩ = some (.int .i64 ml) := by rw [← hml.out]; exact kM.cell 5
 by_cases hhit : tb = true ∧ tv = ml
 · skip
   obtain ⟨rfl, q2⟩ := hhit
   have bq : (tv == ml) = true := by simp [q2]
   have hE := Lib.hid (hLh.out rfl q2)
   replace q2 := Lib.hid q2
   clear hLh hLb
   have c_mi : y10.cell? ⟨gkM, 4, none⟩ = some (.int .i64 mi) := by rw [← hmi.out]; exact kM.cell 4
   have df := fun i => kL.frozen i
   have cR4 : _ = some _ := kL.cell 4
   have cR5 : _ = some _ := kL.cell 5
   go_upto_region 6 with (fail)
   clear df cR4 cR5
   have kL2 : Blk 49 _ gkL (msC { letM c 6 mf with i := mi, lt := t } (.slice none 0 0)) := kL.set_ 4 (.int .i64 mi)
   have pO := put_set y10 gkL (4) (.int .i64 mi)
   generalize (y10.setCell ⟨gkL, 4, none⟩ (.int .i64 mi)) = y11 at *
   replace kC := kC.put pO (Nat.ne_of_lt LTkCkL.out)
   replace kM := kM.put pO (Nat.ne_of_lt LTkMkL.out)
   replace kO := kO.put pO (Nat.ne_of_lt LTkOkL.out)
   replace R0 := R0.putS pO NIR0kL.out
   replace HB := pO.below _ _ HB LEkL.out
   clear kL
   have kL := kL2
   clear kL2 pO
   have kL2 : Blk 49 _ gkL (msC { letM c 6 mf with i := mi, lt := tv } (.slice none 0 0)) := kL.set_ 5 (.int .i64 tv)
   have pO := put_set y11 gkL (5) (.int .i64 tv)
   generalize (y11.setCell ⟨gkL, 5, none⟩ (.int .i64 tv)) = y12 at *
   replace kC := kC.put pO (Nat.ne_of_lt LTkCkL.out)
   replace kM := kM.put pO (Nat.ne_of_lt LTkMkL.out)
   replace kO := kO.put pO (Nat.ne_of_lt LTkOkL.out)
   replace R0 := R0.putS pO NIR0kL.out
   replace HB := pO.below _ _ HB LEkL.out
   clear kL
   have kL := kL2
   clear kL2 pO
   clear c_mi c_ml
   have cs : y12.cell? ⟨w.heap.size, 21, none⟩ = some (.slice A n p) := kC.cell 21
   have ci : y12.cell? ⟨gkL, 4, none⟩ = some (.int .i64 mi) := by exact kL.cell 4
   have w1 : IntKind.i64.wrap (mi + 1) = mi + 1 := by have := hb1.out; have := hi0.out; rw [wrap_sm (by omega) (by omega)]
   go_wp2_with (first | refine lo_Cj kC ?_ | refine lo_cLj kC ?_ | refine lo_cJj kC ?_ | refine lo_Mj kM ?_ | refine lo_mJj kM ?_ | refine lo_Mj kO ?_ | refine lo_mJj kO ?_ | refine lo_Mj kL ?_ | refine lo_mJj kL ?_)
   clear cs ci
   have hsl : sliceF c.lg (mi + 1) ((n : Nat) : Int) = sliceF c.lg (mi + 1) 16384 := slice_all (by rw [hlen.out]; omega) hl4.out
   have CC := enti.slice_any c.lg A n p (mi + 1) (n : Int) y12 y12.heap.size R0 (Nat.le_refl _) hp HF.out (by have := hb1.out; have := hi0.out; unfold In64; omega) (by have := hl4.out; have := hlen.out; unfold In64; omega)
   rw [hsl] at CC
   clear hsl
   refine CC.mono ?_
   rintro e y13 ⟨A5, n5, p5, rfl, hn5, hO, hY⟩
   clear CC
   replace hn5 := Lib.hid hn5
   have hb5 := Lib.hid HB.size
   have gl5 := Lib.hid kL.lt
   have gl6 := Lib.hid kO.lt
   replace HB := bt HB hY
   replace kC := kC.b hY
   replace kM := kM.b hY
   replace kO := kO.b hY
   replace kL := kL.b hY
   replace R0 := R0.on hY hY.size
   clear hY
   have df := fun i => kL.frozen i
   have cR9 : _ = some _ := kL.cell 9
   go_upto_region 7 with (fail)
   clear df cR9
   have kL2 : Blk 49 _ gkL (msC { letM c 6 mf with i := mi, lt := tv, es := sliceF c.lg (mi + 1) 16384 } (.slice A5 n5 p5)) := kL.set_ 9 (.slice A5 n5 p5)
   have pO := put_set y13 gkL (9) (.slice A5 n5 p5)
   generalize (y13.setCell ⟨gkL, 9, none⟩ (.slice A5 n5 p5)) = y14 at *
   replace kC := kC.put pO (Nat.ne_of_lt LTkCkL.out)
   replace kM := kM.put pO (Nat.ne_of_lt LTkMkL.out)
   replace kO := kO.put pO (Nat.ne_of_lt LTkOkL.out)
   replace R0 := R0.putS pO NIR0kL.out
   replace hO := hO.put pO gl5.out
   replace HB := pO.below _ _ HB LEkL.out
   clear kL
   have kL := kL2
   clear kL2 pO
   have hEe : Hid ({ letM c 6 mf with i := mi, lt := tv, es := sliceF c.lg (mi + 1) 16384 } = lenM c m) := by show _ = _; rw [hE.out]
   rw [hEe.out] at kL
   have hes : (lenM c m).es = sliceF c.lg (mi + 1) 16384 := by rw [← hEe.out]
   replace hes := Lib.hid hes
   go_wp2_with (first | refine st_M rfl _ _ rfl (lenM c m) A5 n5 p5 rfl rfl _ kO rfl ?_ | (first | refine lo_Cj kC ?_ | refine lo_cLj kC ?_ | refine lo_cJj kC ?_ | refine lo_Mj kM ?_ | refine lo_mJj kM ?_ | refine lo_Mj kO ?_ | refine lo_mJj kO ?_ | refine lo_Mj kL ?_ | refine lo_mJj kL ?_))
   intro y15 kO2 pO
   replace kC := kC.put pO (Nat.ne_of_lt LTkCkO.out)
   replace kM := kM.put pO (Nat.ne_of_lt LTkMkO.out)
   replace kL := kL.put pO (Nat.ne_of_gt LTkOkL.out)
   replace R0 := R0.putS pO NIR0kO.out
   replace hO := hO.put pO gl6.out
   replace HB := pO.below _ _ HB LEkO.out
   clear kO
   have kO := kO2
   clear kO2 pO
   go_wp2_with (first | refine lo_Cj kC ?_ | refine lo_cLj kC ?_ | refine lo_cJj kC ?_ | refine lo_Mj kM ?_ | refine lo_mJj kM ?_ | refine lo_Mj kO ?_ | refine lo_mJj kO ?_ | refine lo_Mj kL ?_ | refine lo_mJj kL ?_)
   (try simp only [Exit.inBlock, Exit.then])
   refine bodyPost_ret (res1 Tryz.results127 rfl (aggM _) (sizeM _) (ldMv kO)) rfl ?_
   exact ⟨A5, n5, p5, rfl, (by rw [hes.out]; exact hO.more hb5.out), HB⟩
 have hE := Lib.hid (hLb.out hhit)
 clear hLb hLh
 rcases tb with _ | _
 · skip
   clear hhit
   go_upto_region 6 with (fail)
   clear c_ml
   have cs : y10.cell? ⟨w.heap.size, 21, none⟩ = some (.slice A n p) := kC.cell 21
   have ci : y10.cell? ⟨gkL, 4, none⟩ = some (.int .i64 b) := by exact kL.cell 4
   have w1 : IntKind.i64.wrap (b + 1) = b + 1 := by have := hb1.out; have := hi0.out; rw [wrap_sm (by omega) (by omega)]
   go_wp2_with (first | refine lo_Cj kC ?_ | refine lo_cLj kC ?_ | refine lo_cJj kC ?_ | refine lo_Mj kM ?_ | refine lo_mJj kM ?_ | refine lo_Mj kO ?_ | refine lo_mJj kO ?_ | refine lo_Mj kL ?_ | refine lo_mJj kL ?_)
   clear cs ci
   have hsl : sliceF c.lg (b + 1) ((n : Nat) : Int) = sliceF c.lg (b + 1) 16384 := slice_all (by rw [hlen.out]; omega) hl4.out
   have CC := enti.slice_any c.lg A n p (b + 1) (n : Int) y10 y10.heap.size R0 (Nat.le_refl _) hp HF.out (by have := hb1.out; have := hi0.out; unfold In64; omega) (by have := hl4.out; have := hlen.out; unfold In64; omega)
   rw [hsl] at CC
   clear hsl
   refine CC.mono ?_
   rintro e y11 ⟨A5, n5, p5, rfl, hn5, hO, hY⟩
   clear CC
   replace hn5 := Lib.hid hn5
   have hb5 := Lib.hid HB.size
   have gl5 := Lib.hid kL.lt
   have gl6 := Lib.hid kO.lt
   replace HB := bt HB hY
   replace kC := kC.b hY
   replace kM := kM.b hY
   replace kO := kO.b hY
   replace kL := kL.b hY
   replace R0 := R0.on hY hY.size
   clear hY
   have df := fun i => kL.frozen i
   have cR9 : _ = some _ := kL.cell 9
   go_upto_region 7 with (fail)
   clear df cR9
   have kL2 : Blk 49 _ gkL (msC { letM c 6 mf with i := b, lt := t, es := sliceF c.lg (b + 1) 16384 } (.slice A5 n5 p5)) := kL.set_ 9 (.slice A5 n5 p5)
   have pO := put_set y11 gkL (9) (.slice A5 n5 p5)
   generalize (y11.setCell ⟨gkL, 9, none⟩ (.slice A5 n5 p5)) = y12 at *
   replace kC := kC.put pO (Nat.ne_of_lt LTkCkL.out)
   replace kM := kM.put pO (Nat.ne_of_lt LTkMkL.out)
   replace kO := kO.put pO (Nat.ne_of_lt LTkOkL.out)
   replace R0 := R0.putS pO NIR0kL.out
   replace hO := hO.put pO gl5.out
   replace HB := pO.below _ _ HB LEkL.out
   clear kL
   have kL := kL2
   clear kL2 pO
   have hEe : Hid ({ letM c 6 mf with i := b, lt := t, es := sliceF c.lg (b + 1) 16384 } = lenM c m) := by show _ = _; rw [hE.out]
   rw [hEe.out] at kL
   have hes : (lenM c m).es = sliceF c.lg (b + 1) 16384 := by rw [← hEe.out]
   replace hes := Lib.hid hes
   go_wp2_with (first | refine st_M rfl _ _ rfl (lenM c m) A5 n5 p5 rfl rfl _ kO rfl ?_ | (first | refine lo_Cj kC ?_ | refine lo_cLj kC ?_ | refine lo_cJj kC ?_ | refine lo_Mj kM ?_ | refine lo_mJj kM ?_ | refine lo_Mj kO ?_ | refine lo_mJj kO ?_ | refine lo_Mj kL ?_ | refine lo_mJj kL ?_))
   intro y13 kO2 pO
   replace kC := kC.put pO (Nat.ne_of_lt LTkCkO.out)
   replace kM := kM.put pO (Nat.ne_of_lt LTkMkO.out)
   replace kL := kL.put pO (Nat.ne_of_gt LTkOkL.out)
   replace R0 := R0.putS pO NIR0kO.out
   replace hO := hO.put pO gl6.out
   replace HB := pO.below _ _ HB LEkO.out
   clear kO
   have kO := kO2
   clear kO2 pO
   go_wp2_with (first | refine lo_Cj kC ?_ | refine lo_cLj kC ?_ | refine lo_cJj kC ?_ | refine lo_Mj kM ?_ | refine lo_mJj kM ?_ | refine lo_Mj kO ?_ | refine lo_mJj kO ?_ | refine lo_Mj kL ?_ | refine lo_mJj kL ?_)
   (try simp only [Exit.inBlock, Exit.then])
   refine bodyPost_ret (res1 Tryz.results127 rfl (aggM _) (sizeM _) (ldMv kO)) rfl ?_
   exact ⟨A5, n5, p5, rfl, (by rw [hes.out]; exact hO.more hb5.out), HB⟩
 · skip
   have bq : (tv == ml) = false := by simp; exact fun e => hhit ⟨rfl, e⟩
   clear hhit
   go_upto_region 6 with (fail)
   clear c_ml
   have cs : y10.cell? ⟨w.heap.size, 21, none⟩ = some (.slice A n p) := kC.cell 21
   have ci : y10.cell? ⟨gkL, 4, none⟩ = some (.int .i64 b) := by exact kL.cell 4
   have w1 : IntKind.i64.wrap (b + 1) = b + 1 := by have := hb1.out; have := hi0.out; rw [wrap_sm (by omega) (by omega)]
   go_wp2_with (first | refine lo_Cj kC ?_ | refine lo_cLj kC ?_ | refine lo_cJj kC ?_ | refine lo_Mj kM ?_ | refine lo_mJj kM ?_ | refine lo_Mj kO ?_ | refine lo_mJj kO ?_ | refine lo_Mj kL ?_ | refine lo_mJj kL ?_)
   clear cs ci
   have hsl : sliceF c.lg (b + 1) ((n : Nat) : Int) = sliceF c.lg (b + 1) 16384 := slice_all (by rw [hlen.out]; omega) hl4.out
   have CC := enti.slice_any c.lg A n p (b + 1) (n : Int) y10 y10.heap.size R0 (Nat.le_refl _) hp HF.out (by have := hb1.out; have := hi0.out; unfold In64; omega) (by have := hl4.out; have := hlen.out; unfold In64; omega)
   rw [hsl] at CC
   clear hsl
   refine CC.mono ?_
   rintro e y11 ⟨A5, n5, p5, rfl, hn5, hO, hY⟩
   clear CC
   replace hn5 := Lib.hid hn5
   have hb5 := Lib.hid HB.size
   have gl5 := Lib.hid kL.lt
   have gl6 := Lib.hid kO.lt
   replace HB := bt HB hY
   replace kC := kC.b hY
   replace kM := kM.b hY
   replace kO := kO.b hY
   replace kL := kL.b hY
   replace R0 := R0.on hY hY.size
   clear hY
   have df := fun i => kL.frozen i
   have cR9 : _ = some _ := kL.cell 9
   go_upto_region 7 with (fail)
   clear df cR9
   have kL2 : Blk 49 _ gkL (msC { letM c 6 mf with i := b, lt := t, es := sliceF c.lg (b + 1) 16384 } (.slice A5 n5 p5)) := kL.set_ 9 (.slice A5 n5 p5)
   have pO := put_set y11 gkL (9) (.slice A5 n5 p5)
   generalize (y11.setCell ⟨gkL, 9, none⟩ (.slice A5 n5 p5)) = y12 at *
   replace kC := kC.put pO (Nat.ne_of_lt LTkCkL.out)
   replace kM := kM.put pO (Nat.ne_of_lt LTkMkL.out)
   replace kO := kO.put pO (Nat.ne_of_lt LTkOkL.out)
   replace R0 := R0.putS pO NIR0kL.out
   replace hO := hO.put pO gl5.out
   replace HB := pO.below _ _ HB LEkL.out
   clear kL
   have kL := kL2
   clear kL2 pO
   have hEe : Hid ({ letM c 6 mf with i := b, lt := t, es := sliceF c.lg (b + 1) 16384 } = lenM c m) := by show _ = _; rw [hE.out]
   rw [hEe.out] at kL
   have hes : (lenM c m).es = sliceF c.lg (b + 1) 16384 := by rw [← hEe.out]
   replace hes := Lib.hid hes
   go_wp2_with (first | refine st_M rfl _ _ rfl (lenM c m) A5 n5 p5 rfl rfl _ kO rfl ?_ | (first | refine lo_Cj kC ?_ | refine lo_cLj kC ?_ | refine lo_cJj kC ?_ | refine lo_Mj kM ?_ | refine lo_mJj kM ?_ | refine lo_Mj kO ?_ | refine lo_mJj kO ?_ | refine lo_Mj kL ?_ | refine lo_mJj kL ?_))
   intro y13 kO2 pO
   replace kC := kC.put pO (Nat.ne_of_lt LTkCkO.out)
   replace kM := kM.put pO (Nat.ne_of_lt LTkMkO.out)
   replace kL := kL.put pO (Nat.ne_of_gt LTkOkL.out)
   replace R0 := R0.putS pO NIR0kO.out
   replace hO := hO.put pO gl6.out
   replace HB := pO.below _ _ HB LEkO.out
   clear kO
   have kO := kO2
   clear kO2 pO
   go_wp2_with (first | refine lo_Cj kC ?_ | refine lo_cLj kC ?_ | refine lo_cJj kC ?_ | refine lo_Mj kM ?_ | refine lo_mJj kM ?_ | refine lo_Mj kO ?_ | refine lo_mJj kO ?_ | refine lo_Mj kL ?_ | refine lo_mJj kL ?_)
   (try simp only [Exit.inBlock, Exit.then])
   refine bodyPost_ret (res1 Tryz.results127 rfl (aggM _) (sizeM _) (ldMv kO)) rfl ?_
   exact ⟨A5, n5, p5, rfl, (by rw [hes.out]; exact hO.more hb5.out), HB⟩
end Go.Proofs.YtegnfkbmlalkeaaGreat.cor
