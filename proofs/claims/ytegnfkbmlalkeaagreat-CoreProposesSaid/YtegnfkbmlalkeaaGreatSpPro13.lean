/- CoreProposes' walk. No condition. -/
import Derived.Deep.RegionHeld3
import Derived.Deep.Cut
import Derived.Lib.Hide
import Derived.Test.YtegnfkbmlalkeaaGreatSpJ4
import Derived.Test.YtegnfkbmlalkeaaGreatSpLwB13
import Derived.Test.YtegnfkbmlalkeaaGreatSpJ0
import Derived.Test.YtegnfkbmlalkeaaGreatSpRefMy13
import Derived.Test.YtegnfkbmlalkeaaGreatSpJ3
import Derived.Test.YtegnfkbmlalkeaaGreatSpRefSg13
import Derived.Test.YtegnfkbmlalkeaaGreatSpRefPp13
import Derived.Test.YtegnfkbmlalkeaaGreatSpJ6
import Derived.Test.YtegnfkbmlalkeaaGreatSpCorPr13
import Derived.Test.YtegnfkbmlalkeaaGreatSpKitLg
set_option linter.unusedVariables false
set_option maxHeartbeats 16000000
set_option maxRecDepth 10000
namespace Go.Proofs.YtegnfkbmlalkeaaGreat.law13
open Go Go.RowKit kit nums cf lg cr se
theorem prop_few (c : CoL) (x : EnL) : (propF c x).2.1.length ≤ 9 ∧ ∀ m ∈ (propF c x).2.1, m.es.length ≤ 8 := by
 unfold propF
 split
 ·
  dsimp only
  split
  · exact ⟨all_few _, all_es _⟩
  · exact ⟨by simp, fun m hm => by cases hm⟩
 · exact ⟨by simp, fun m hm => by cases hm⟩
theorem prX_may {c : CoL} {x : EnL} (hk : GoodK c) (hx : x.j.b.ok) : (cor.prX c x).k = 2 → (cor.prX c x).j.ok ∧ mayJ (cor.prX c x).j = true := by
 intro h
 unfold cor.prX at h ⊢
 split at h
 ·
  rename_i h0
  rw [if_pos h0]
  unfold propX at h ⊢
  split at h
  ·
   rename_i h2
   rw [if_pos h2]
   have hc : chE c x.j.b = 0 := by
    unfold propE at h0
    split at h0
    · exact absurd h0 (by decide)
    ·
     split at h0
     · exact absurd h0 (by decide)
     ·
      split at h0
      · exact absurd h0 (by decide)
      · first | exact h0 | (rw [if_pos h2] at h0; exact h0)
   have hce : changeE (conC c) x.j.b = 0 := by
    unfold chE at hc
    split at hc
    · exact absurd hc (by decide)
    ·
     split at hc
     · rename_i h7; exact absurd hc h7
     · rename_i h7; exact Decidable.not_not.1 h7
   exact ⟨change_ok hk.n.2.2.2.2.1 hx, (change_mayJ (mayJ_a hk.n.2.2.2.2.2.1) hce).1⟩
  · rename_i h2; exact absurd h h2
 · exact absurd h (by decide)
theorem end_es (d : CoL) : (endC d).lg.es.length = d.lg.es.length := by rw [ref13.endC_lg]
theorem cou_es (c : CoL) : (couC c).lg.es.length ≤ c.lg.es.length + 1 := by
 unfold couC
 dsimp only
 split
 · rw [end_es]; show (c.lg.es ++ [_]).length ≤ _; rw [List.length_append]; simp
 · rw [end_es]; show c.lg.es.length ≤ _; omega
theorem prop_es (c : CoL) (x : EnL) (h : c.lg.es.length ≤ 60) : (propF c x).1.lg.es.length ≤ 100 := by
 unfold propF
 split
 ·
  refine Nat.le_trans (cou_es _) ?_
  show (c.lg.es ++ [_]).length + 1 ≤ _
  rw [List.length_append]; simp; omega
 · exact Nat.zero_le _
theorem comp_es (c : CoL) (tz : Int) (d : ByteArray) : (compF c tz d).1.lg.es.length ≤ c.lg.es.length := by
 unfold compF
 split
 · exact Nat.zero_le _
 ·
  show (compactF c.lg tz).1.es.length ≤ _
  unfold compactF
  split
  ·
   show (c.lg.es.drop _).length ≤ _
   rw [List.length_drop]; omega
  · exact Nat.zero_le _
theorem proposes_walk (c : CoL) (A : Option Addr) (n p : Nat) (x : EnL) (tz : Int) (sn : ByteArray) (w : World) (hR : RdE w w.heap.size A n c.lg.es) (hp : n ≤ p) (hj : c.lg.j.ok) (hok : ∀ x ∈ c.lg.es, x.j.ok) (hv : c.vs < 65536 ∧ c.he < 65536) (hx : x.j.ok) : Calls Tryz.prog 5 #[crV c (.slice A n p), enV x, .int .i64 tz, .string sn] w fun e w' => e = .returned (.bool true) ∧ Below w.heap.size w w' := by
 have HJ := Lh hj
 have HOk := Lh hok
 have HV := Lh hv
 have hp2 := Lh hp
 have R0 := hR
 have HT := Lh hx.2
 obtain ⟨xd, hxd⟩ : ∃ q, x.d = q := ⟨_, rfl⟩
 replace hxd := Lh hxd
 clear hj hok hv hR hx
 go_enter Tryz.func5, Tryz.ntmps5
 go_wp2_with (first | go_skip | refine box_C rfl _ rfl c (.slice A n p) rfl ?_ | fail)
 intro y1 kC e1 s1
 clear s1
 have HB := e1
 replace R0 := R0.on e1 e1.size
 clear e1
 go_wp2_with (first | go_skip | refine box_E rfl _ rfl x rfl ?_ | (first | refine lo_Cj kC ?_ | refine lo_cLj kC ?_ | refine lo_cJj kC ?_))
 intro y2 kE e2 s2
 clear s2
 replace HB := bt HB e2
 replace kC := kC.b e2
 replace R0 := R0.on e2 e2.size
 clear e2
 generalize y1.heap.size = gkE at *
 go_wp2_with (first | go_skip | refine lo_Cj kC ?_ | refine lo_cLj kC ?_ | refine lo_cJj kC ?_ | refine lo_Ej kE ?_)
 refine (begun_any y2).mono ?_
 rintro e y3 ⟨rfl, hY⟩
 replace HB := bt HB hY
 replace kC := kC.b hY
 replace kE := kE.b hY
 replace R0 := R0.on hY hY.size
 clear hY
 go_wp2_with (first | go_skip | refine lo_Cj kC ?_ | refine lo_cLj kC ?_ | refine lo_cJj kC ?_ | refine lo_Ej kE ?_)
 refine (light_any c A n p y3 y3.heap.size R0 (Nat.le_refl _) hp2.out).mono ?_
 rintro e y4 ⟨bl, rfl, hbl, hY⟩
 replace HB := bt HB hY
 replace kC := kC.b hY
 replace kE := kE.b hY
 replace R0 := R0.on hY hY.size
 clear hY
 rcases bl with _ | _
 ·
  go_wp2_with (first | go_skip | refine lo_Cj kC ?_ | refine lo_cLj kC ?_ | refine lo_cJj kC ?_ | refine lo_Ej kE ?_)
  go_ret
  exact ⟨rfl, HB⟩
 have hn60 := Lh (hbl.out rfl)
 clear hbl
 have cxd : y4.cell? ⟨gkE, 2, none⟩ = some (.string xd) := by rw [← hxd.out]; exact kE.cell 2
 by_cases hd2 : (200 : Int) < (xd.size : Int)
 ·
  have dd2 : decide ((200 : Int) < (xd.size : Int)) = true := decide_eq_true hd2
  replace hd2 := Lh hd2
  go_wp2_with (first | go_skip | refine lo_Cj kC ?_ | refine lo_cLj kC ?_ | refine lo_cJj kC ?_ | refine lo_Ej kE ?_)
  go_ret
  exact ⟨rfl, HB⟩
 have dd2 : decide ((200 : Int) < (xd.size : Int)) = false := decide_eq_false hd2
 replace hd2 := Lh hd2
 by_cases hs2 : (200 : Int) < (sn.size : Int)
 ·
  have ds2 : decide ((200 : Int) < (sn.size : Int)) = true := decide_eq_true hs2
  replace hs2 := Lh hs2
  go_wp2_with (first | go_skip | refine lo_Cj kC ?_ | refine lo_cLj kC ?_ | refine lo_cJj kC ?_ | refine lo_Ej kE ?_)
  go_ret
  exact ⟨rfl, HB⟩
 have ds2 : decide ((200 : Int) < (sn.size : Int)) = false := decide_eq_false hs2
 replace hs2 := Lh hs2
 obtain ⟨mk, hmk⟩ : ∃ q, mayK c = q := ⟨_, rfl⟩
 replace hmk := Lh hmk
 go_wp2_with (first | go_skip | refine lo_Cj kC ?_ | refine lo_cLj kC ?_ | refine lo_cJj kC ?_ | refine lo_Ej kE ?_)
 clear cxd
 have CC := cor.rmay_any c A n p y4 y4.heap.size R0 (Nat.le_refl _) hp2.out (by have := hn60.out; omega) HJ.out HOk.out
 rw [hmk.out] at CC
 refine (CC).mono ?_
 rintro e y5 ⟨rfl, hY⟩
 replace HB := bt HB hY
 replace kC := kC.b hY
 replace kE := kE.b hY
 replace R0 := R0.on hY hY.size
 clear hY
 clear CC
 rcases mk with _ | _
 ·
  go_wp2_with (first | go_skip | refine lo_Cj kC ?_ | refine lo_cLj kC ?_ | refine lo_cJj kC ?_ | refine lo_Ej kE ?_)
  go_ret
  exact ⟨rfl, HB⟩
 have HG : Hid (GoodK c) := Lh (OkC.good ⟨HJ.out, HOk.out, by rw [R0.1]; exact hn60.out, HV.out.1, HV.out.2⟩ hmk.out (by omega))
 have HPX := Lh (prX_may HG.out HT.out)
 clear hd2 hs2 dd2 ds2
 have hfew := prop_few c x
 obtain ⟨d, hd⟩ : ∃ q, (propF c x).1 = q := ⟨_, rfl⟩
 obtain ⟨OUT, hOUT⟩ : ∃ q, (propF c x).2.1 = q := ⟨_, rfl⟩
 obtain ⟨ix, hix⟩ : ∃ q, (propF c x).2.2.1 = q := ⟨_, rfl⟩
 obtain ⟨er, her⟩ : ∃ q, (propF c x).2.2.2 = q := ⟨_, rfl⟩
 rw [hOUT] at hfew
 obtain ⟨z, hz⟩ : ∃ q, (compF c tz sn).1 = q := ⟨_, rfl⟩
 obtain ⟨ez, hez⟩ : ∃ q, (compF c tz sn).2 = q := ⟨_, rfl⟩
 have hdl : Hid (d.lg.es.length ≤ 1000) := Lh (by have h := prop_es c x (by rw [R0.1]; exact Nat.le_trans hn60.out (by omega : 60 ≤ 60)); rw [hd] at h; omega)
 have hzl : Hid (z.lg.es.length ≤ 1000) := Lh (by have h := comp_es c tz sn; rw [hz] at h; have := R0.1; have := hn60.out; omega)
 replace hd := Lh hd
 replace hOUT := Lh hOUT
 replace hix := Lh hix
 replace her := Lh her
 replace hz := Lh hz
 replace hez := Lh hez
 replace hfew := Lh hfew
 go_wp2_with (first | go_skip | refine lo_Cj kC ?_ | refine lo_cLj kC ?_ | refine lo_cJj kC ?_ | refine lo_Ej kE ?_)
 have CC := cor.propose_any c A n p x y5 y5.heap.size R0 (Nat.le_refl _) hp2.out HG.out HT.out HPX.out
 rw [hd.out, hOUT.out, hix.out, her.out] at CC
 refine CC.mono ?_
 rintro e y6 ⟨A1, n1, p1, v9, B9, rfl, RB, hp1, ON9, hO, hB9, hB8, hY⟩
 clear CC
 have R1 := RB.more hB8
 obtain ⟨Ao, co, xs, rfl, hxs, XO, hXO⟩ := hO.in_ hB8
 clear RB ON9 hO hB9 hB8 hXO
 replace hp1 := Lh hp1
 replace hxs := Lh hxs
 replace HB := bt HB hY
 replace kC := kC.b hY
 replace kE := kE.b hY
 replace R0 := R0.on hY hY.size
 clear hY
 have LTkCkD := Lh kC.lt
 have LTkEkD := Lh kE.lt
 have NIR0kD := Lh (NotIn.of_rd R0 (Nat.le_refl _))
 have NIR1kD := Lh (NotIn.of_rd R1 (Nat.le_refl _))
 have LEkD : Hid (w.heap.size ≤ y6.heap.size) := HB.size
 have NIXOkD := Lh (NotM.of_in XO (Nat.le_refl _))
 go_wp2_with (first | go_skip | refine al_C rfl rfl ?_ | (first | refine lo_Cj kC ?_ | refine lo_cLj kC ?_ | refine lo_cJj kC ?_ | refine lo_Ej kE ?_))
 intro y7 kD e7 s7
 clear s7
 replace kD : Blk _ _ _ (crC zC (.slice none 0 0)) := kD
 replace HB := bt HB e7
 replace kC := kC.b e7
 replace kE := kE.b e7
 replace R0 := R0.on e7 e7.size
 replace R1 := R1.on e7 e7.size
 replace XO := XO.on e7 e7.size
 clear e7
 generalize y6.heap.size = gkD at *
 go_wp2_with (first | go_skip | refine st_C rfl _ _ rfl d A1 n1 p1 rfl rfl _ kD rfl ?_ | (first | refine lo_Cj kC ?_ | refine lo_cLj kC ?_ | refine lo_cJj kC ?_ | refine lo_Ej kE ?_ | refine lo_Cj kD ?_ | refine lo_cLj kD ?_ | refine lo_cJj kD ?_))
 intro y8 kD2 pO
 replace kC := kC.put pO (Nat.ne_of_lt LTkCkD.out)
 replace kE := kE.put pO (Nat.ne_of_lt LTkEkD.out)
 replace R0 := R0.putS pO NIR0kD.out
 replace R1 := R1.putS pO NIR1kD.out
 replace XO := XO.putS pO NIXOkD.out
 replace HB := pO.below _ _ HB LEkD.out
 clear kD
 have kD := kD2
 clear kD2 pO
 go_wp2_with (first | go_skip | refine lo_Cj kC ?_ | refine lo_cLj kC ?_ | refine lo_cJj kC ?_ | refine lo_Ej kE ?_ | refine lo_Cj kD ?_ | refine lo_cLj kD ?_ | refine lo_cJj kD ?_)
 have CC := ref13.rpropose_any c A n p x y8 y8.heap.size R0 (Nat.le_refl _) hp2.out HG.out HT.out HPX.out
 rw [hd.out, hOUT.out, hix.out, her.out] at CC
 refine CC.mono ?_
 rintro e y9 ⟨A2, n2, p2, v8, rfl, R2, hp8, hM, hY⟩
 clear CC
 obtain ⟨Aq, cq, xq, rfl, hxq, XP⟩ := rdms_in hM
 clear hM hp8
 replace hxq := Lh hxq
 replace HB := bt HB hY
 replace kC := kC.b hY
 replace kE := kE.b hY
 replace kD := kD.b hY
 replace R0 := R0.on hY hY.size
 replace R1 := R1.on hY hY.size
 replace XO := XO.on hY hY.size
 clear hY
 have LTkCkX := Lh kC.lt
 have LTkEkX := Lh kE.lt
 have LTkDkX := Lh kD.lt
 have NIR0kX := Lh (NotIn.of_rd R0 (Nat.le_refl _))
 have NIR1kX := Lh (NotIn.of_rd R1 (Nat.le_refl _))
 have NIR2kX := Lh (NotIn.of_rd R2 (Nat.le_refl _))
 have LEkX : Hid (w.heap.size ≤ y9.heap.size) := HB.size
 have NIXOkX := Lh (NotM.of_in XO (Nat.le_refl _))
 have NIXPkX := Lh (NotM.of_in XP (Nat.le_refl _))
 go_wp2_with (first | go_skip | refine al_C rfl rfl ?_ | (first | refine lo_Cj kC ?_ | refine lo_cLj kC ?_ | refine lo_cJj kC ?_ | refine lo_Ej kE ?_ | refine lo_Cj kD ?_ | refine lo_cLj kD ?_ | refine lo_cJj kD ?_))
 intro y10 kX e10 s10
 clear s10
 replace kX : Blk _ _ _ (crC zC (.slice none 0 0)) := kX
 replace HB := bt HB e10
 replace kC := kC.b e10
 replace kE := kE.b e10
 replace kD := kD.b e10
 replace R0 := R0.on e10 e10.size
 replace R1 := R1.on e10 e10.size
 replace XO := XO.on e10 e10.size
 replace R2 := R2.on e10 e10.size
 replace XP := XP.on e10 e10.size
 clear e10
 generalize y9.heap.size = gkX at *
 go_wp2_with (first | go_skip | refine st_C rfl _ _ rfl d A2 n2 p2 rfl rfl _ kX rfl ?_ | (first | refine lo_Cj kC ?_ | refine lo_cLj kC ?_ | refine lo_cJj kC ?_ | refine lo_Ej kE ?_ | refine lo_Cj kD ?_ | refine lo_cLj kD ?_ | refine lo_cJj kD ?_ | refine lo_Cj kX ?_ | refine lo_cLj kX ?_ | refine lo_cJj kX ?_))
 intro y11 kX2 pO
 replace kC := kC.put pO (Nat.ne_of_lt LTkCkX.out)
 replace kE := kE.put pO (Nat.ne_of_lt LTkEkX.out)
 replace kD := kD.put pO (Nat.ne_of_lt LTkDkX.out)
 replace R0 := R0.putS pO NIR0kX.out
 replace R1 := R1.putS pO NIR1kX.out
 replace XO := XO.putS pO NIXOkX.out
 replace R2 := R2.putS pO NIR2kX.out
 replace XP := XP.putS pO NIXPkX.out
 replace HB := pO.below _ _ HB LEkX.out
 clear kX
 have kX := kX2
 clear kX2 pO
 go_wp2_with (first | go_skip | refine lo_Cj kC ?_ | refine lo_cLj kC ?_ | refine lo_cJj kC ?_ | refine lo_Ej kE ?_ | refine lo_Cj kD ?_ | refine lo_cLj kD ?_ | refine lo_cJj kD ?_ | refine lo_Cj kX ?_ | refine lo_cLj kX ?_ | refine lo_cJj kX ?_)
 have CC := cor.compact_any c A n p tz sn y11 y11.heap.size R0 (Nat.le_refl _) hp2.out HG.out.n.1 HG.out.n.2.2.2.2.2.2.2
 rw [hz.out, hez.out] at CC
 refine CC.mono ?_
 rintro e y12 ⟨A3, n3, p3, rfl, R3, hp3, -, hY⟩
 clear CC hp3
 replace HB := bt HB hY
 replace kC := kC.b hY
 replace kE := kE.b hY
 replace kD := kD.b hY
 replace kX := kX.b hY
 replace R0 := R0.on hY hY.size
 replace R1 := R1.on hY hY.size
 replace XO := XO.on hY hY.size
 replace R2 := R2.on hY hY.size
 replace XP := XP.on hY hY.size
 clear hY
 have LTkCkY := Lh kC.lt
 have LTkEkY := Lh kE.lt
 have LTkDkY := Lh kD.lt
 have LTkXkY := Lh kX.lt
 have NIR0kY := Lh (NotIn.of_rd R0 (Nat.le_refl _))
 have NIR1kY := Lh (NotIn.of_rd R1 (Nat.le_refl _))
 have NIR2kY := Lh (NotIn.of_rd R2 (Nat.le_refl _))
 have NIR3kY := Lh (NotIn.of_rd R3 (Nat.le_refl _))
 have LEkY : Hid (w.heap.size ≤ y12.heap.size) := HB.size
 have NIXOkY := Lh (NotM.of_in XO (Nat.le_refl _))
 have NIXPkY := Lh (NotM.of_in XP (Nat.le_refl _))
 go_wp2_with (first | go_skip | refine al_C rfl rfl ?_ | (first | refine lo_Cj kC ?_ | refine lo_cLj kC ?_ | refine lo_cJj kC ?_ | refine lo_Ej kE ?_ | refine lo_Cj kD ?_ | refine lo_cLj kD ?_ | refine lo_cJj kD ?_ | refine lo_Cj kX ?_ | refine lo_cLj kX ?_ | refine lo_cJj kX ?_))
 intro y13 kY e13 s13
 clear s13
 replace kY : Blk _ _ _ (crC zC (.slice none 0 0)) := kY
 replace HB := bt HB e13
 replace kC := kC.b e13
 replace kE := kE.b e13
 replace kD := kD.b e13
 replace kX := kX.b e13
 replace R0 := R0.on e13 e13.size
 replace R1 := R1.on e13 e13.size
 replace XO := XO.on e13 e13.size
 replace R2 := R2.on e13 e13.size
 replace XP := XP.on e13 e13.size
 replace R3 := R3.on e13 e13.size
 clear e13
 generalize y12.heap.size = gkY at *
 go_wp2_with (first | go_skip | refine st_C rfl _ _ rfl z A3 n3 p3 rfl rfl _ kY rfl ?_ | (first | refine lo_Cj kC ?_ | refine lo_cLj kC ?_ | refine lo_cJj kC ?_ | refine lo_Ej kE ?_ | refine lo_Cj kD ?_ | refine lo_cLj kD ?_ | refine lo_cJj kD ?_ | refine lo_Cj kX ?_ | refine lo_cLj kX ?_ | refine lo_cJj kX ?_ | refine lo_Cj kY ?_ | refine lo_cLj kY ?_ | refine lo_cJj kY ?_))
 intro y14 kY2 pO
 replace kC := kC.put pO (Nat.ne_of_lt LTkCkY.out)
 replace kE := kE.put pO (Nat.ne_of_lt LTkEkY.out)
 replace kD := kD.put pO (Nat.ne_of_lt LTkDkY.out)
 replace kX := kX.put pO (Nat.ne_of_lt LTkXkY.out)
 replace R0 := R0.putS pO NIR0kY.out
 replace R1 := R1.putS pO NIR1kY.out
 replace XO := XO.putS pO NIXOkY.out
 replace R2 := R2.putS pO NIR2kY.out
 replace XP := XP.putS pO NIXPkY.out
 replace R3 := R3.putS pO NIR3kY.out
 replace HB := pO.below _ _ HB LEkY.out
 clear kY
 have kY := kY2
 clear kY2 pO
 go_wp2_with (first | go_skip | refine lo_Cj kC ?_ | refine lo_cLj kC ?_ | refine lo_cJj kC ?_ | refine lo_Ej kE ?_ | refine lo_Cj kD ?_ | refine lo_cLj kD ?_ | refine lo_cJj kD ?_ | refine lo_Cj kX ?_ | refine lo_cLj kX ?_ | refine lo_cJj kX ?_ | refine lo_Cj kY ?_ | refine lo_cLj kY ?_ | refine lo_cJj kY ?_)
 have CC := cor.rcomp_any c A n p tz sn y14 y14.heap.size R0 (Nat.le_refl _) hp2.out HG.out.n.1
 rw [hz.out, hez.out] at CC
 refine CC.mono ?_
 rintro e y15 ⟨A4, n4, p4, rfl, R4, hp4, -, hY⟩
 clear CC hp4
 replace HB := bt HB hY
 replace kC := kC.b hY
 replace kE := kE.b hY
 replace kD := kD.b hY
 replace kX := kX.b hY
 replace kY := kY.b hY
 replace R0 := R0.on hY hY.size
 replace R1 := R1.on hY hY.size
 replace XO := XO.on hY hY.size
 replace R2 := R2.on hY hY.size
 replace XP := XP.on hY hY.size
 replace R3 := R3.on hY hY.size
 clear hY
 clear R0
 clear kC
 clear kE
 have LTkDkZ := Lh kD.lt
 have LTkXkZ := Lh kX.lt
 have LTkYkZ := Lh kY.lt
 have NIR1kZ := Lh (NotIn.of_rd R1 (Nat.le_refl _))
 have NIR2kZ := Lh (NotIn.of_rd R2 (Nat.le_refl _))
 have NIR3kZ := Lh (NotIn.of_rd R3 (Nat.le_refl _))
 have NIR4kZ := Lh (NotIn.of_rd R4 (Nat.le_refl _))
 have LEkZ : Hid (w.heap.size ≤ y15.heap.size) := HB.size
 have NIXOkZ := Lh (NotM.of_in XO (Nat.le_refl _))
 have NIXPkZ := Lh (NotM.of_in XP (Nat.le_refl _))
 go_wp2_with (first | go_skip | refine al_C rfl rfl ?_ | (first | refine lo_Cj kD ?_ | refine lo_cLj kD ?_ | refine lo_cJj kD ?_ | refine lo_Cj kX ?_ | refine lo_cLj kX ?_ | refine lo_cJj kX ?_ | refine lo_Cj kY ?_ | refine lo_cLj kY ?_ | refine lo_cJj kY ?_))
 intro y16 kZ e16 s16
 clear s16
 replace kZ : Blk _ _ _ (crC zC (.slice none 0 0)) := kZ
 replace HB := bt HB e16
 replace kD := kD.b e16
 replace kX := kX.b e16
 replace kY := kY.b e16
 replace R1 := R1.on e16 e16.size
 replace XO := XO.on e16 e16.size
 replace R2 := R2.on e16 e16.size
 replace XP := XP.on e16 e16.size
 replace R3 := R3.on e16 e16.size
 replace R4 := R4.on e16 e16.size
 clear e16
 generalize y15.heap.size = gkZ at *
 go_wp2_with (first | go_skip | refine st_C rfl _ _ rfl z A4 n4 p4 rfl rfl _ kZ rfl ?_ | (first | refine lo_Cj kD ?_ | refine lo_cLj kD ?_ | refine lo_cJj kD ?_ | refine lo_Cj kX ?_ | refine lo_cLj kX ?_ | refine lo_cJj kX ?_ | refine lo_Cj kY ?_ | refine lo_cLj kY ?_ | refine lo_cJj kY ?_ | refine lo_Cj kZ ?_ | refine lo_cLj kZ ?_ | refine lo_cJj kZ ?_))
 intro y17 kZ2 pO
 replace kD := kD.put pO (Nat.ne_of_lt LTkDkZ.out)
 replace kX := kX.put pO (Nat.ne_of_lt LTkXkZ.out)
 replace kY := kY.put pO (Nat.ne_of_lt LTkYkZ.out)
 replace R1 := R1.putS pO NIR1kZ.out
 replace XO := XO.putS pO NIXOkZ.out
 replace R2 := R2.putS pO NIR2kZ.out
 replace XP := XP.putS pO NIXPkZ.out
 replace R3 := R3.putS pO NIR3kZ.out
 replace R4 := R4.putS pO NIR4kZ.out
 replace HB := pO.below _ _ HB LEkZ.out
 clear kZ
 have kZ := kZ2
 clear kZ2 pO
 go_wp2_with (first | go_skip | refine lo_Cj kD ?_ | refine lo_cLj kD ?_ | refine lo_cJj kD ?_ | refine lo_Cj kX ?_ | refine lo_cLj kX ?_ | refine lo_cJj kX ?_ | refine lo_Cj kY ?_ | refine lo_cLj kY ?_ | refine lo_cJj kY ?_ | refine lo_Cj kZ ?_ | refine lo_cLj kZ ?_ | refine lo_cJj kZ ?_)
 have CC := ref13.same_eq d A1 n1 p1 A2 n2 p2 y17 R1 R2 (by have := R1.1; have := hdl.out; omega)
 refine (CC).mono ?_
 rintro e y18 ⟨rfl, hY⟩
 replace HB := bt HB hY
 replace kD := kD.b hY
 replace kX := kX.b hY
 replace kY := kY.b hY
 replace kZ := kZ.b hY
 replace R1 := R1.on hY hY.size
 replace XO := XO.on hY hY.size
 replace R2 := R2.on hY hY.size
 replace XP := XP.on hY hY.size
 replace R3 := R3.on hY hY.size
 replace R4 := R4.on hY hY.size
 clear hY
 clear CC
 go_wp2_with (first | go_skip | refine lo_Cj kD ?_ | refine lo_cLj kD ?_ | refine lo_cJj kD ?_ | refine lo_Cj kX ?_ | refine lo_cLj kX ?_ | refine lo_cJj kX ?_ | refine lo_Cj kY ?_ | refine lo_cLj kY ?_ | refine lo_cJj kY ?_ | refine lo_Cj kZ ?_ | refine lo_cLj kZ ?_ | refine lo_cJj kZ ?_)
 have CC := ref13.samemsgs_eq OUT Ao OUT.length co xs Aq cq xq y18 XO XP hxs.out hxq.out (by have := hfew.out.1; omega) (fun m hm => by have := hfew.out.2 m hm; omega)
 refine (CC).mono ?_
 rintro e y19 ⟨rfl, hY⟩
 replace HB := bt HB hY
 replace kD := kD.b hY
 replace kX := kX.b hY
 replace kY := kY.b hY
 replace kZ := kZ.b hY
 replace R1 := R1.on hY hY.size
 replace XO := XO.on hY hY.size
 replace R2 := R2.on hY hY.size
 replace XP := XP.on hY hY.size
 replace R3 := R3.on hY hY.size
 replace R4 := R4.on hY hY.size
 clear hY
 clear CC
 go_wp2_with (first | go_skip | refine lo_Cj kD ?_ | refine lo_cLj kD ?_ | refine lo_cJj kD ?_ | refine lo_Cj kX ?_ | refine lo_cLj kX ?_ | refine lo_cJj kX ?_ | refine lo_Cj kY ?_ | refine lo_cLj kY ?_ | refine lo_cJj kY ?_ | refine lo_Cj kZ ?_ | refine lo_cLj kZ ?_ | refine lo_cJj kZ ?_)
 have CC := ref13.same_eq z A3 n3 p3 A4 n4 p4 y19 R3 R4 (by have := R3.1; have := hzl.out; omega)
 refine (CC).mono ?_
 rintro e y20 ⟨rfl, hY⟩
 replace HB := bt HB hY
 replace kD := kD.b hY
 replace kX := kX.b hY
 replace kY := kY.b hY
 replace kZ := kZ.b hY
 replace R1 := R1.on hY hY.size
 replace XO := XO.on hY hY.size
 replace R2 := R2.on hY hY.size
 replace XP := XP.on hY hY.size
 replace R3 := R3.on hY hY.size
 replace R4 := R4.on hY hY.size
 clear hY
 clear CC
 go_wp2_with (first | go_skip | refine lo_Cj kD ?_ | refine lo_cLj kD ?_ | refine lo_cJj kD ?_ | refine lo_Cj kX ?_ | refine lo_cLj kX ?_ | refine lo_cJj kX ?_ | refine lo_Cj kY ?_ | refine lo_cLj kY ?_ | refine lo_cJj kY ?_ | refine lo_Cj kZ ?_ | refine lo_cLj kZ ?_ | refine lo_cJj kZ ?_)
 go_ret
 exact ⟨by first | rfl | simp, HB⟩
end Go.Proofs.YtegnfkbmlalkeaaGreat.law13
