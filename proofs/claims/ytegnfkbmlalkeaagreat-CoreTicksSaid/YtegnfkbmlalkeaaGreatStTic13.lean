/- CoreTicks' walk. No condition. -/
import Derived.Deep.RegionHeld3
import Derived.Deep.Cut
import Derived.Lib.Hide
import Derived.Test.YtegnfkbmlalkeaaGreatStJ4
import Derived.Test.YtegnfkbmlalkeaaGreatStLwB13
import Derived.Test.YtegnfkbmlalkeaaGreatStJ0
import Derived.Test.YtegnfkbmlalkeaaGreatStRefMy13
import Derived.Test.YtegnfkbmlalkeaaGreatStJ3
import Derived.Test.YtegnfkbmlalkeaaGreatStRefSg13
import Derived.Test.YtegnfkbmlalkeaaGreatStRefTU13
import Derived.Test.YtegnfkbmlalkeaaGreatStJ6
import Derived.Test.YtegnfkbmlalkeaaGreatStJ7
import Derived.Test.YtegnfkbmlalkeaaGreatStJ1
import Derived.Test.YtegnfkbmlalkeaaGreatStKitLg
set_option linter.unusedVariables false
set_option maxHeartbeats 16000000
set_option maxRecDepth 10000
namespace Go.Proofs.YtegnfkbmlalkeaaGreat.law13
open Go Go.RowKit kit nums cf lg cr se
theorem ticks_walk (c : CoL) (A : Option Addr) (n p : Nat) (nn : Int) (w : World) (hR : RdE w w.heap.size A n c.lg.es) (hp : n ≤ p) (hj : c.lg.j.ok) (hok : ∀ x ∈ c.lg.es, x.j.ok) (hv : c.vs < 65536 ∧ c.he < 65536) (hn : In64 nn) : Calls Tryz.prog 3 #[crV c (.slice A n p), .int .i64 nn] w fun e w' => e = .returned (.bool true) ∧ Below w.heap.size w w' := by
 have HJ := Lh hj
 have HOk := Lh hok
 have HV := Lh hv
 have hp2 := Lh hp
 have R0 := hR
 have hnI := Lh hn
 clear hj hok hv hR hn
 go_enter Tryz.func3, Tryz.ntmps3
 have NIR0kC := Lh (NotIn.of_rd R0 (Nat.le_refl _))
 go_wp2_with (first | go_skip | refine box_C rfl _ rfl c (.slice A n p) rfl ?_ | fail)
 intro y1 kC e1 s1
 clear s1
 have HB := e1
 replace R0 := R0.on e1 e1.size
 clear e1
 go_wp2_with (first | go_skip | refine lo_Cj kC ?_ | refine lo_cLj kC ?_ | refine lo_cJj kC ?_)
 refine (begun_any y1).mono ?_
 rintro e y2 ⟨rfl, hY⟩
 replace HB := bt HB hY
 replace kC := kC.b hY
 replace R0 := R0.on hY hY.size
 clear hY
 go_wp2_with (first | go_skip | refine lo_Cj kC ?_ | refine lo_cLj kC ?_ | refine lo_cJj kC ?_)
 refine (light_any c A n p y2 y2.heap.size R0 (Nat.le_refl _) hp2.out).mono ?_
 rintro e y3 ⟨bl, rfl, hbl, hY⟩
 replace HB := bt HB hY
 replace kC := kC.b hY
 replace R0 := R0.on hY hY.size
 clear hY
 rcases bl with _ | _
 ·
  go_wp2_with (first | go_skip | refine lo_Cj kC ?_ | refine lo_cLj kC ?_ | refine lo_cJj kC ?_)
  go_ret
  exact ⟨rfl, HB⟩
 have hn60 := Lh (hbl.out rfl)
 clear hbl
 obtain ⟨mk, hmk⟩ : ∃ q, mayK c = q := ⟨_, rfl⟩
 have hne : (mk != mk) = false := by simp
 replace hmk := Lh hmk
 go_upto_region 5 with (first | go_skip | refine lo_Cj kC ?_ | refine lo_cLj kC ?_ | refine lo_cJj kC ?_)
 refine wp_region_held_drew (S := fun wq => Blk 33 wq w.heap.size (crC c (.slice A n p))) (by kernel_rfl) ?s_tic5 (fun hHeld => ?_)
 case s_tic5 => exact kC
 have hD := (Below.refl y3.heap.size y3).drew
 replace HB := bt HB hD
 replace kC := kC.b hD
 replace R0 := R0.on hD hD.size
 clear hD
 generalize y3.drew = y4 at *
 refine tj 0 _ ?_ (hy := fun wq hSw => rld_C rfl rfl (id hSw))
 try simp only [Act.put, ka, kb, kc]
 refine tj 2 _ ?_ (hy := fun wq hSw => rld_C rfl rfl (id hSw))
 try simp only [Act.put, ka, kb, kc]
 refine rr [1] ?_
 refine rc (fun KQ hKQ => ?_) AllReadyH.nil
 go_simp
 have CC := cor.may_any c A n p y4 y4.heap.size R0 (Nat.le_refl _) hp2.out (by have := hn60.out; omega) HJ.out HOk.out
 rw [hmk.out] at CC
 refine (CC).mono ?_
 rintro e y5 ⟨rfl, hY⟩
 replace HB := bt HB hY
 replace kC := kC.b hY
 replace R0 := R0.on hY hY.size
 clear hY
 clear CC
 go_wp2_with fail
 refine hKQ.out _ _ (kC) (fun _ => ?_)
 clear hKQ KQ
 try simp only [Act.put, ka, kb, kc]
 refine rr [3] ?_
 refine rc (fun KQ hKQ => ?_) AllReadyH.nil
 go_simp
 have CC := cor.rmay_any c A n p y5 y5.heap.size R0 (Nat.le_refl _) hp2.out (by have := hn60.out; omega) HJ.out HOk.out
 rw [hmk.out] at CC
 refine (CC).mono ?_
 rintro e y6 ⟨rfl, hY⟩
 replace HB := bt HB hY
 replace kC := kC.b hY
 replace R0 := R0.on hY hY.size
 clear hY
 clear CC
 go_wp2_with fail
 refine hKQ.out _ _ (kC) (fun _ => ?_)
 clear hKQ KQ
 try simp only [Act.put, ka, kb, kc]
 refine tj 4 _ ?_
 try simp only [Act.put, ka, kb, kc]
 refine wpAnyH_done (by kernel_rfl) ?_ _
 go_wp2_with (first | go_skip | refine lo_Cj kC ?_ | refine lo_cLj kC ?_ | refine lo_cJj kC ?_)
 have CC := cor.rmay_any c A n p y6 y6.heap.size R0 (Nat.le_refl _) hp2.out (by have := hn60.out; omega) HJ.out HOk.out
 rw [hmk.out] at CC
 refine (CC).mono ?_
 rintro e y7 ⟨rfl, hY⟩
 replace HB := bt HB hY
 replace kC := kC.b hY
 replace R0 := R0.on hY hY.size
 clear hY
 clear CC hne
 rcases mk with _ | _
 ·
  go_wp2_with (first | go_skip | refine lo_Cj kC ?_ | refine lo_cLj kC ?_ | refine lo_cJj kC ?_)
  go_ret
  exact ⟨rfl, HB⟩
 have HOC : Hid (OkC c 60) := Lh ⟨HJ.out, HOk.out, by rw [R0.1]; exact hn60.out, HV.out.1, HV.out.2⟩
 obtain ⟨pl, hpl⟩ : ∃ q : Nat, law0.placeF nn 40 = (q : Int) := ⟨(law0.placeF nn 40).toNat, by have := law0.place_in nn 40 (by omega); omega⟩
 have hpl40 : pl < 40 := by have := law0.place_in nn 40 (by omega); omega
 replace hpl := Lh hpl
 clear HJ HOk HV hn60
 have HB0 := Lh HB
 go_wp2_with go_skip
 go_loopw [5] (fun iv wr => ∃ (i : Nat) (c : CoL) (A' : Option Addr) (n' p' : Nat), i ≤ pl + 1 ∧ iv = .int .i64 (i : Int) ∧ Hid (OkC c (60 + 2 * i)) ∧ Hid (mayK c = true) ∧ Hid (Blk 33 wr w.heap.size (crC c (.slice A' n' p'))) ∧ Hid (RdE wr wr.heap.size A' n' c.lg.es) ∧ Hid (NotIn w.heap.size A' n') ∧ Hid (n' ≤ p') ∧ Hid (Below w.heap.size y7 wr)) (fun iv _ => pl + 1 - (intOf iv).toNat)
 case atStart => exact ⟨0, c, A, n, p, by omega, rfl, HOC, hmk, Lh kC, Lh R0, NIR0kC, hp2, Lh (Below.refl _ _)⟩
 case round =>
  obtain ⟨i, c, A, nc, p, hip, rfl, hOC, hMK, HkC, HRc, HNC, Hp, HBr⟩ := hrel
  clear HB kC R0 NIR0kC HOC hmk hp2
  have hG := Lh (hOC.out.good hMK.out (by omega))
  have hF := Lh hG.out.n.1
  by_cases hi6 : i < pl + 1
  ·
   have kC := HkC.out
   have R0 := HRc.out
   have NIR0kC := HNC
   have HB := HBr.out
   clear HkC HRc HNC HBr
   have ck : (i : Int) ≤ (pl : Int) := by omega
   have wk : IntKind.i64.wrap ((i : Int) + 1) = ((i + 1 : Nat) : Int) := by rw [wrap_sm (by omega) (by omega)]; omega
   go_wp2_with (first | go_skip | refine lo_Cj kC ?_ | refine lo_cLj kC ?_ | refine lo_cJj kC ?_)
   have CC := law0.place_any nn 40 wr hnI.out.1 hnI.out.2 (by omega)
   rw [hpl.out] at CC
   refine (CC).mono ?_
   rintro e y51 ⟨rfl, hW⟩
   subst hW
   clear CC
   go_wp2_with (first | go_skip | refine lo_Cj kC ?_ | refine lo_cLj kC ?_ | refine lo_cJj kC ?_)
   refine (ref12.rcopy_any c.lg A nc p wr wr.heap.size R0 (Nat.le_refl _) Hp.out hF.out).mono ?_
   rintro e y52 ⟨A7, c7, rfl, hO7, hY⟩
   have hc7 := Lh hO7.cap.2.1
   have R7 := hO7.cap.2.2.2
   clear hO7
   replace HB := HB.trans (hY.mono (Nat.le_of_lt kC.lt))
   replace kC := kC.b hY
   replace R0 := R0.on hY hY.size
   clear hY
   have LTkCkL := Lh kC.lt
   have NIR0kL := Lh (NotIn.of_rd R0 (Nat.le_refl _))
   have NIR7kL := Lh (NotIn.of_rd R7 (Nat.le_refl _))
   have LEkL : Hid (w.heap.size ≤ y52.heap.size) := Lh (Nat.le_of_lt kC.lt)
   go_wp2_with (first | go_skip | refine al_L rfl rfl ?_ | (first | refine lo_Cj kC ?_ | refine lo_cLj kC ?_ | refine lo_cJj kC ?_))
   intro y53 kL e53 s53
   clear s53
   replace kL : Blk _ _ _ (lgC zL (.slice none 0 0)) := kL
   replace HB := HB.trans (e53.mono (Nat.le_of_lt kC.lt))
   replace kC := kC.b e53
   replace R0 := R0.on e53 e53.size
   replace R7 := R7.on e53 e53.size
   clear e53
   generalize y52.heap.size = gkL at *
   go_wp2_with (first | go_skip | refine st_L rfl _ _ rfl c.lg A7 nc c7 rfl rfl _ kL rfl ?_ | (first | refine lo_Cj kC ?_ | refine lo_cLj kC ?_ | refine lo_cJj kC ?_ | refine lo_Lj kL ?_ | refine lo_lJj kL ?_))
   intro y54 kL2 pO
   replace kC := kC.put pO (Nat.ne_of_lt LTkCkL.out)
   replace R0 := R0.putS pO NIR0kL.out
   replace R7 := R7.putS pO NIR7kL.out
   replace HB := pO.below _ _ HB LEkL.out
   clear kL
   have kL := kL2
   clear kL2 pO
   obtain ⟨d, hd⟩ : ∃ q, (tickF c).1 = q := ⟨_, rfl⟩
   obtain ⟨OUT, hOUT⟩ : ∃ q, (tickF c).2 = q := ⟨_, rfl⟩
   have hfew := tick_few c
   have hmes := tick_es c
   rw [hOUT] at hfew hmes
   have hOd : Hid (OkC d (60 + 2 * (i + 1))) := Lh (by rw [← hd]; exact hOC.out.tick)
   replace hd := Lh hd
   replace hOUT := Lh hOUT
   replace hfew := Lh hfew
   replace hmes := Lh hmes
   go_wp2_with (first | go_skip | refine lo_Cj kC ?_ | refine lo_cLj kC ?_ | refine lo_cJj kC ?_ | refine lo_Lj kL ?_ | refine lo_lJj kL ?_)
   have CC := cor.tick_any c A nc p y54 y54.heap.size R0 (Nat.le_refl _) Hp.out hG.out
   rw [hd.out, hOUT.out] at CC
   refine CC.mono ?_
   rintro e y55 ⟨A1, n1, p1, v9, B9, rfl, RB, hp1, ON9, hO, hB9, hB8, hY⟩
   clear CC
   have NIR1kC := Lh (NIR0kC.out.next ON9 kC.lt)
   have R1 := RB.more hB8
   obtain ⟨Ao, co, xs, rfl, hxs, XO, hXO⟩ := hO.in_ hB8
   clear RB ON9 hO hB9 hB8 hXO
   replace hp1 := Lh hp1
   replace hxs := Lh hxs
   replace HB := HB.trans (hY.mono (Nat.le_of_lt kC.lt))
   replace kC := kC.b hY
   replace kL := kL.b hY
   replace R0 := R0.on hY hY.size
   replace R7 := R7.on hY hY.size
   clear hY
   have LTkCkD := Lh kC.lt
   have LTkLkD := Lh kL.lt
   have NIR0kD := Lh (NotIn.of_rd R0 (Nat.le_refl _))
   have NIR7kD := Lh (NotIn.of_rd R7 (Nat.le_refl _))
   have NIR1kD := Lh (NotIn.of_rd R1 (Nat.le_refl _))
   have LEkD : Hid (w.heap.size ≤ y55.heap.size) := Lh (Nat.le_of_lt kC.lt)
   have NIXOkD := Lh (NotM.of_in XO (Nat.le_refl _))
   go_wp2_with (first | go_skip | refine al_C rfl rfl ?_ | (first | refine lo_Cj kC ?_ | refine lo_cLj kC ?_ | refine lo_cJj kC ?_ | refine lo_Lj kL ?_ | refine lo_lJj kL ?_))
   intro y56 kD e56 s56
   clear s56
   replace kD : Blk _ _ _ (crC zC (.slice none 0 0)) := kD
   replace HB := HB.trans (e56.mono (Nat.le_of_lt kC.lt))
   replace kC := kC.b e56
   replace kL := kL.b e56
   replace R0 := R0.on e56 e56.size
   replace R7 := R7.on e56 e56.size
   replace R1 := R1.on e56 e56.size
   replace XO := XO.on e56 e56.size
   clear e56
   generalize y55.heap.size = gkD at *
   go_wp2_with (first | go_skip | refine st_C rfl _ _ rfl d A1 n1 p1 rfl rfl _ kD rfl ?_ | (first | refine lo_Cj kC ?_ | refine lo_cLj kC ?_ | refine lo_cJj kC ?_ | refine lo_Lj kL ?_ | refine lo_lJj kL ?_ | refine lo_Cj kD ?_ | refine lo_cLj kD ?_ | refine lo_cJj kD ?_))
   intro y57 kD2 pO
   replace kC := kC.put pO (Nat.ne_of_lt LTkCkD.out)
   replace kL := kL.put pO (Nat.ne_of_lt LTkLkD.out)
   replace R0 := R0.putS pO NIR0kD.out
   replace R7 := R7.putS pO NIR7kD.out
   replace R1 := R1.putS pO NIR1kD.out
   replace XO := XO.putS pO NIXOkD.out
   replace HB := pO.below _ _ HB LEkD.out
   clear kD
   have kD := kD2
   clear kD2 pO
   go_wp2_with (first | go_skip | refine lo_Cj kC ?_ | refine lo_cLj kC ?_ | refine lo_cJj kC ?_ | refine lo_Lj kL ?_ | refine lo_lJj kL ?_ | refine lo_Cj kD ?_ | refine lo_cLj kD ?_ | refine lo_cJj kD ?_)
   have CC := ref13.tick_any c A nc p y57 y57.heap.size R0 (Nat.le_refl _) Hp.out hG.out
   rw [hd.out, hOUT.out] at CC
   refine CC.mono ?_
   rintro e y58 ⟨A2, n2, p2, v8, rfl, R2, hp8, hM, hY⟩
   clear CC
   obtain ⟨Aq, cq, xq, rfl, hxq, XP⟩ := rdms_in hM
   clear hM hp8
   replace hxq := Lh hxq
   replace HB := HB.trans (hY.mono (Nat.le_of_lt kC.lt))
   replace kC := kC.b hY
   replace kL := kL.b hY
   replace kD := kD.b hY
   replace R0 := R0.on hY hY.size
   replace R7 := R7.on hY hY.size
   replace R1 := R1.on hY hY.size
   replace XO := XO.on hY hY.size
   clear hY
   have LTkCkE := Lh kC.lt
   have LTkLkE := Lh kL.lt
   have LTkDkE := Lh kD.lt
   have NIR0kE := Lh (NotIn.of_rd R0 (Nat.le_refl _))
   have NIR7kE := Lh (NotIn.of_rd R7 (Nat.le_refl _))
   have NIR1kE := Lh (NotIn.of_rd R1 (Nat.le_refl _))
   have NIR2kE := Lh (NotIn.of_rd R2 (Nat.le_refl _))
   have LEkE : Hid (w.heap.size ≤ y58.heap.size) := Lh (Nat.le_of_lt kC.lt)
   have NIXOkE := Lh (NotM.of_in XO (Nat.le_refl _))
   have NIXPkE := Lh (NotM.of_in XP (Nat.le_refl _))
   go_wp2_with (first | go_skip | refine al_C rfl rfl ?_ | (first | refine lo_Cj kC ?_ | refine lo_cLj kC ?_ | refine lo_cJj kC ?_ | refine lo_Lj kL ?_ | refine lo_lJj kL ?_ | refine lo_Cj kD ?_ | refine lo_cLj kD ?_ | refine lo_cJj kD ?_))
   intro y59 kE e59 s59
   clear s59
   replace kE : Blk _ _ _ (crC zC (.slice none 0 0)) := kE
   replace HB := HB.trans (e59.mono (Nat.le_of_lt kC.lt))
   replace kC := kC.b e59
   replace kL := kL.b e59
   replace kD := kD.b e59
   replace R0 := R0.on e59 e59.size
   replace R7 := R7.on e59 e59.size
   replace R1 := R1.on e59 e59.size
   replace XO := XO.on e59 e59.size
   replace R2 := R2.on e59 e59.size
   replace XP := XP.on e59 e59.size
   clear e59
   generalize y58.heap.size = gkE at *
   go_wp2_with (first | go_skip | refine st_C rfl _ _ rfl d A2 n2 p2 rfl rfl _ kE rfl ?_ | (first | refine lo_Cj kC ?_ | refine lo_cLj kC ?_ | refine lo_cJj kC ?_ | refine lo_Lj kL ?_ | refine lo_lJj kL ?_ | refine lo_Cj kD ?_ | refine lo_cLj kD ?_ | refine lo_cJj kD ?_ | refine lo_Cj kE ?_ | refine lo_cLj kE ?_ | refine lo_cJj kE ?_))
   intro y60 kE2 pO
   replace kC := kC.put pO (Nat.ne_of_lt LTkCkE.out)
   replace kL := kL.put pO (Nat.ne_of_lt LTkLkE.out)
   replace kD := kD.put pO (Nat.ne_of_lt LTkDkE.out)
   replace R0 := R0.putS pO NIR0kE.out
   replace R7 := R7.putS pO NIR7kE.out
   replace R1 := R1.putS pO NIR1kE.out
   replace XO := XO.putS pO NIXOkE.out
   replace R2 := R2.putS pO NIR2kE.out
   replace XP := XP.putS pO NIXPkE.out
   replace HB := pO.below _ _ HB LEkE.out
   clear kE
   have kE := kE2
   clear kE2 pO
   go_wp2_with (first | go_skip | refine lo_Cj kC ?_ | refine lo_cLj kC ?_ | refine lo_cJj kC ?_ | refine lo_Lj kL ?_ | refine lo_lJj kL ?_ | refine lo_Cj kD ?_ | refine lo_cLj kD ?_ | refine lo_cJj kD ?_ | refine lo_Cj kE ?_ | refine lo_cLj kE ?_ | refine lo_cJj kE ?_)
   have CC := ref13.same_eq d A1 n1 p1 A2 n2 p2 y60 R1 R2 (by have := R1.1; have := hOd.out.len; omega)
   refine (CC).mono ?_
   rintro e y61 ⟨rfl, hY⟩
   replace HB := HB.trans (hY.mono (Nat.le_of_lt kC.lt))
   replace kC := kC.b hY
   replace kL := kL.b hY
   replace kD := kD.b hY
   replace kE := kE.b hY
   replace R0 := R0.on hY hY.size
   replace R7 := R7.on hY hY.size
   replace R1 := R1.on hY hY.size
   replace XO := XO.on hY hY.size
   replace R2 := R2.on hY hY.size
   replace XP := XP.on hY hY.size
   clear hY
   clear CC
   go_wp2_with (first | go_skip | refine lo_Cj kC ?_ | refine lo_cLj kC ?_ | refine lo_cJj kC ?_ | refine lo_Lj kL ?_ | refine lo_lJj kL ?_ | refine lo_Cj kD ?_ | refine lo_cLj kD ?_ | refine lo_cJj kD ?_ | refine lo_Cj kE ?_ | refine lo_cLj kE ?_ | refine lo_cJj kE ?_)
   have CC := ref13.samemsgs_eq OUT Ao OUT.length co xs Aq cq xq y61 XO XP hxs.out hxq.out (by have := hfew.out; omega) (fun m hm => by have := hmes.out m hm; omega)
   refine (CC).mono ?_
   rintro e y62 ⟨rfl, hY⟩
   replace HB := HB.trans (hY.mono (Nat.le_of_lt kC.lt))
   replace kC := kC.b hY
   replace kL := kL.b hY
   replace kD := kD.b hY
   replace kE := kE.b hY
   replace R0 := R0.on hY hY.size
   replace R7 := R7.on hY hY.size
   replace R1 := R1.on hY hY.size
   replace XO := XO.on hY hY.size
   replace R2 := R2.on hY hY.size
   replace XP := XP.on hY hY.size
   clear hY
   clear CC
   go_wp2_with (first | go_skip | refine lo_Cj kC ?_ | refine lo_cLj kC ?_ | refine lo_cJj kC ?_ | refine lo_Lj kL ?_ | refine lo_lJj kL ?_ | refine lo_Cj kD ?_ | refine lo_cLj kD ?_ | refine lo_cJj kD ?_ | refine lo_Cj kE ?_ | refine lo_cLj kE ?_ | refine lo_cJj kE ?_)
   have CC := ref12.rsame_any c.lg c.lg A nc p A7 nc c7 y62 y62.heap.size y62.heap.size R0 (Nat.le_refl _) R7 (Nat.le_refl _) (by have := R0.1; have := hOC.out.len; omega)
   rw [eqL_self] at CC
   refine (CC).mono ?_
   rintro e y63 ⟨rfl, hY⟩
   replace HB := HB.trans (hY.mono (Nat.le_of_lt kC.lt))
   replace kC := kC.b hY
   replace kL := kL.b hY
   replace kD := kD.b hY
   replace kE := kE.b hY
   replace R0 := R0.on hY hY.size
   replace R7 := R7.on hY hY.size
   replace R1 := R1.on hY hY.size
   replace XO := XO.on hY hY.size
   replace R2 := R2.on hY hY.size
   replace XP := XP.on hY hY.size
   clear hY
   clear CC
   clear R2
   clear XP
   clear XO
   clear R7
   clear R0
   clear kE
   clear kL
   go_wp2_with (first | go_skip | refine st_C rfl _ _ rfl d A1 n1 p1 rfl rfl _ kC rfl ?_ | (first | refine lo_Cj kC ?_ | refine lo_cLj kC ?_ | refine lo_cJj kC ?_ | refine lo_Cj kD ?_ | refine lo_cLj kD ?_ | refine lo_cJj kD ?_))
   intro y64 kC2 pO
   replace kD := kD.put pO (Nat.ne_of_gt LTkCkD.out)
   replace R1 := R1.putS pO NIR1kC.out
   replace HB := pO.below _ _ HB (Nat.le_refl _)
   clear kC
   have kC := kC2
   clear kC2 pO
   clear kD
   go_wp2_with (first | go_skip | refine lo_Cj kC ?_ | refine lo_cLj kC ?_ | refine lo_cJj kC ?_)
   have CC := cor.rmay_any d A1 n1 p1 y64 y64.heap.size R1 (Nat.le_refl _) hp1.out (by have := R1.1; have := hOd.out.len; omega) hOd.out.j hOd.out.es
   obtain ⟨mk, hmk⟩ : ∃ q, mayK d = q := ⟨_, rfl⟩
   rw [hmk] at CC
   refine (CC).mono ?_
   rintro e y65 ⟨rfl, hY⟩
   replace HB := HB.trans (hY.mono (Nat.le_of_lt kC.lt))
   replace kC := kC.b hY
   replace R1 := R1.on hY hY.size
   clear hY
   clear CC
   replace hmk := Lh hmk
   rcases mk with _ | _
   ·
    go_wp2_with (first | go_skip | refine lo_Cj kC ?_ | refine lo_cLj kC ?_ | refine lo_cJj kC ?_)
    go_ret
    exact ⟨rfl, HB0.out.trans (HB.mono (Nat.le_refl _))⟩
   go_wp2_with go_skip
   go_roundw
   case rel => exact ⟨i + 1, d, A1, n1, p1, by omega, by rfl, hOd, hmk, Lh kC, Lh R1, NIR1kC, hp1, Lh HB⟩
   case measure => simp only [intOf]; omega
  ·
   have kC := HkC.out
   have R0 := HRc.out
   have NIR0kC := HNC
   have HB := HBr.out
   clear HkC HRc HNC HBr
   obtain rfl : i = pl + 1 := by omega
   have ck : ¬ (((pl + 1 : Nat) : Int) ≤ (pl : Int)) := by omega
   go_wp2_with (first | go_skip | refine lo_Cj kC ?_ | refine lo_cLj kC ?_ | refine lo_cJj kC ?_)
   have CC := law0.place_any nn 40 wr hnI.out.1 hnI.out.2 (by omega)
   rw [hpl.out] at CC
   refine (CC).mono ?_
   rintro e y51 ⟨rfl, hW⟩
   subst hW
   clear CC
   obtain ⟨idv, hidv⟩ : ∃ q, c.id = q := ⟨_, rfl⟩
   have hid9 : 1 ≤ idv ∧ idv ≤ 9 := by rw [← hidv]; exact ⟨hG.out.id1, hG.out.n.2.2.2.1⟩
   replace hidv := Lh hidv
   replace hid9 := Lh hid9
   go_upto_region 20 with (first | go_skip | refine lo_Cj kC ?_ | refine lo_cLj kC ?_ | refine lo_cJj kC ?_)
   refine wp_region_held_drew (S := fun wq => Blk 33 wq w.heap.size (crC c (.slice A nc p)) ∧ wq.cell? ⟨w.heap.size, 0, none⟩ = some (.int .i64 idv)) (by kernel_rfl) ?s_tic20 (fun hHeld => ?_)
   case s_tic20 => exact ⟨kC, by rw [← hidv.out]; exact kC.cell 0⟩
   have hD := (Below.refl wr.heap.size wr).drew
   replace HB := HB.trans (hD.mono (Nat.le_of_lt kC.lt))
   replace kC := kC.b hD
   replace R0 := R0.on hD hD.size
   clear hD
   generalize wr.drew = y52 at *
   refine tj 0 _ ?_ (hy := fun wq hSw => rld_C rfl rfl (And.left hSw))
   try simp only [Act.put, ka, kb, kc]
   refine tj 2 _ ?_ (hy := fun wq hSw => rld_C rfl rfl (And.left hSw))
   try simp only [Act.put, ka, kb, kc]
   refine rr [1] ?_
   refine rc (fun KQ hKQ => ?_) AllReadyH.nil
   go_simp
   have CC := cor.restart_any c A nc p y52 y52.heap.size R0 (Nat.le_refl _) Hp.out (by have := R0.1; have := hOC.out.len; omega)
   refine CC.mono ?_
   rintro e y53 ⟨A3, n3, p3, rfl, R3, hp3, -, hY⟩
   clear CC
   replace HB := HB.trans (hY.mono (Nat.le_of_lt kC.lt))
   replace kC := kC.b hY
   replace R0 := R0.on hY hY.size
   clear hY
   go_wp2_with fail
   refine hKQ.out _ _ (⟨kC, by rw [← hidv.out]; exact kC.cell 0⟩) (fun _ => ?_)
   clear hKQ KQ
   try simp only [Act.put, ka, kb, kc]
   refine rr [3] ?_
   refine rc (fun KQ hKQ => ?_) AllReadyH.nil
   go_simp
   have CC := cor.rrestart_any c A nc p y53 y53.heap.size R0 (Nat.le_refl _) Hp.out hF.out
   refine CC.mono ?_
   rintro e y54 ⟨A4, p4, rfl, R4, hp4, -, hY⟩
   clear CC
   replace HB := HB.trans (hY.mono (Nat.le_of_lt kC.lt))
   replace kC := kC.b hY
   replace R0 := R0.on hY hY.size
   replace R3 := R3.on hY hY.size
   clear hY
   go_wp2_with fail
   refine hKQ.out _ _ (⟨kC, by rw [← hidv.out]; exact kC.cell 0⟩) (fun _ => ?_)
   clear hKQ KQ
   try simp only [Act.put, ka, kb, kc]
   refine rr [4] ?_
   refine rc (fun KQ hKQ => ?_) AllReadyH.nil
   go_simp
   have CC := ref13.same_eq (restC c) A3 n3 p3 A4 nc p4 y54 R3 R4 (by have := R3.1; have := hOC.out.rest.len; omega)
   refine (CC).mono ?_
   rintro e y55 ⟨rfl, hY⟩
   replace HB := HB.trans (hY.mono (Nat.le_of_lt kC.lt))
   replace kC := kC.b hY
   replace R0 := R0.on hY hY.size
   replace R3 := R3.on hY hY.size
   replace R4 := R4.on hY hY.size
   clear hY
   clear CC
   go_wp2_with fail
   refine hKQ.out _ _ (⟨kC, by rw [← hidv.out]; exact kC.cell 0⟩) (fun _ => ?_)
   clear hKQ KQ
   try simp only [Act.put, ka, kb, kc]
   iterate 3 (refine tx 5 _ ?_; try simp only [Act.put, ka, kb, kc])
   iterate 2 (refine tx 9 _ ?_; try simp only [Act.put, ka, kb, kc])
   refine rr [8] ?_
   refine rc (fun KQ hKQ => ?_) AllReadyH.nil
   go_simp
   have CC := cor.pat_any idv y55 (by have := hid9.out; omega)
   refine (CC).mono ?_
   rintro e y56 ⟨rfl, hW⟩
   subst hW
   clear CC
   go_wp2_with fail
   refine hKQ.out _ _ (⟨kC, by rw [← hidv.out]; exact kC.cell 0⟩) (fun _ => ?_)
   clear hKQ KQ
   try simp only [Act.put, ka, kb, kc]
   refine rr [11] ?_
   refine rc (fun KQ hKQ => ?_) AllReadyH.nil
   go_simp
   have CC := ref13.pat_any idv y55 (by have := hid9.out; omega)
   refine (CC).mono ?_
   rintro e y57 ⟨rfl, hW⟩
   subst hW
   clear CC
   go_wp2_with fail
   refine hKQ.out _ _ (⟨kC, by rw [← hidv.out]; exact kC.cell 0⟩) (fun _ => ?_)
   clear hKQ KQ
   try simp only [Act.put, ka, kb, kc]
   iterate 3 (refine tx 12 _ ?_; try simp only [Act.put, ka, kb, kc])
   refine wpAnyH_done (by kernel_rfl) ?_ _
   go_wp2_with (first | go_skip | refine lo_Cj kC ?_ | refine lo_cLj kC ?_ | refine lo_cJj kC ?_)
   go_ret
   exact ⟨by first | rfl | simp, HB0.out.trans (HB.mono (Nat.le_refl _))⟩
end Go.Proofs.YtegnfkbmlalkeaaGreat.law13
