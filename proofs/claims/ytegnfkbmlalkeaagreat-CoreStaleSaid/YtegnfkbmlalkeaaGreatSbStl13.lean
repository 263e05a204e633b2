/- CoreStale's walk. No condition. -/
import Derived.Deep.RegionHeld3
import Derived.Deep.Cut
import Derived.Lib.Hide
import Derived.Test.YtegnfkbmlalkeaaGreatSbJ5
import Derived.Test.YtegnfkbmlalkeaaGreatSbLwB13
import Derived.Test.YtegnfkbmlalkeaaGreatSbJ2
import Derived.Test.YtegnfkbmlalkeaaGreatSbRefMy13
import Derived.Test.YtegnfkbmlalkeaaGreatSbJ4
import Derived.Test.YtegnfkbmlalkeaaGreatSbKitLg
import Derived.Test.YtegnfkbmlalkeaaGreatSbJ0
namespace Go.Proofs.YtegnfkbmlalkeaaGreat.law13
open Go Go.RowKit Go.Proofs.YtegnfkbmlalkeaaGreat.kit Go.Proofs.YtegnfkbmlalkeaaGreat.nums Go.Proofs.YtegnfkbmlalkeaaGreat.cf Go.Proofs.YtegnfkbmlalkeaaGreat.lg Go.Proofs.YtegnfkbmlalkeaaGreat.cr Go.Proofs.YtegnfkbmlalkeaaGreat.se
set_option linter.unusedVariables false
set_option maxHeartbeats 8000000 in
set_option maxRecDepth 10000 in
theorem stale_walk (c : CoL) (A : Option Addr) (n p : Nat) (m : MsL) (Am : Option Addr) (nm pm : Nat) (w : World) (hR : RdE w w.heap.size A n c.lg.es) (hp : n ≤ p) (hj : c.lg.j.ok) (hok : ∀ x ∈ c.lg.es, x.j.ok) (hv : c.vs < 65536 ∧ c.he < 65536) (hm : RdE w w.heap.size Am nm m.es) (hpm : nm ≤ pm) (hmj : m.j.ok) (hmok : ∀ x ∈ m.es, x.j.ok) : Calls Tryz.prog 8 #[crV c (.slice A n p), msV m (.slice Am nm pm)] w fun e w' => e = .returned (.bool true) ∧ Below w.heap.size w w' := by
 have R0 := hR
 have RM := hm
 have HJ := Lib.hid hj
 have HOk := Lib.hid hok
 have HV := Lib.hid hv
 have HMJ := Lib.hid hmj
 have HMok := Lib.hid hmok
 have hp2 := Lib.hid hp
 have hpm2 := Lib.hid hpm
 clear hj hok hv hmj hmok
 go_enter Tryz.func8, Tryz.ntmps8
 clear hR hm
 go_wp2_with (first | go_skip | refine box_C rfl _ rfl c (.slice A n p) rfl ?_ | fail)
 intro y1 kC e1 s1
 clear s1
 have HB := e1
 replace R0 := R0.on e1 e1.size
 replace RM := RM.on e1 e1.size
 clear e1
 go_wp2_with (first | go_skip | refine box_M rfl _ rfl m (.slice Am nm pm) rfl ?_ | (first | refine lo_C _ rfl rfl rfl kC ?_ | refine lo_cL _ rfl rfl rfl kC ?_ | refine lo_cJ _ rfl rfl rfl kC ?_))
 intro y2 kM e2 s2
 clear s2
 replace HB := bt HB e2
 replace kC := kC.b e2
 replace R0 := R0.on e2 e2.size
 replace RM := RM.on e2 e2.size
 clear e2
 generalize y1.heap.size = gkM at *
 go_wp2_with (first | go_skip | refine lo_C _ rfl rfl rfl kC ?_ | refine lo_cL _ rfl rfl rfl kC ?_ | refine lo_cJ _ rfl rfl rfl kC ?_ | refine lo_M _ rfl rfl rfl kM ?_ | refine lo_mJ _ rfl rfl rfl kM ?_)
 refine (begun_any y2).mono ?_
 rintro e y3 ⟨rfl, hY⟩
 replace HB := bt HB hY
 replace kC := kC.b hY
 replace kM := kM.b hY
 replace R0 := R0.on hY hY.size
 replace RM := RM.on hY hY.size
 clear hY
 go_wp2_with (first | go_skip | refine lo_C _ rfl rfl rfl kC ?_ | refine lo_cL _ rfl rfl rfl kC ?_ | refine lo_cJ _ rfl rfl rfl kC ?_ | refine lo_M _ rfl rfl rfl kM ?_ | refine lo_mJ _ rfl rfl rfl kM ?_)
 refine (light_any c A n p y3 y3.heap.size R0 (Nat.le_refl _) hp2.out).mono ?_
 rintro e y4 ⟨bl, rfl, hbl, hY⟩
 replace HB := bt HB hY
 replace kC := kC.b hY
 replace kM := kM.b hY
 replace R0 := R0.on hY hY.size
 replace RM := RM.on hY hY.size
 clear hY
 rcases bl with _ | _
 · skip
   go_wp2_with (first | go_skip | refine lo_C _ rfl rfl rfl kC ?_ | refine lo_cL _ rfl rfl rfl kC ?_ | refine lo_cJ _ rfl rfl rfl kC ?_ | refine lo_M _ rfl rfl rfl kM ?_ | refine lo_mJ _ rfl rfl rfl kM ?_)
   go_ret
   exact ⟨rfl, HB⟩
 have hn60 := Lib.hid (hbl.out rfl)
 clear hbl
 go_wp2_with (first | go_skip | refine lo_C _ rfl rfl rfl kC ?_ | refine lo_cL _ rfl rfl rfl kC ?_ | refine lo_cJ _ rfl rfl rfl kC ?_ | refine lo_M _ rfl rfl rfl kM ?_ | refine lo_mJ _ rfl rfl rfl kM ?_)
 refine (lightMsg_any m Am nm pm y4 y4.heap.size RM (Nat.le_refl _)).mono ?_
 rintro e y5 ⟨bl, rfl, hbl, hY⟩
 replace HB := bt HB hY
 replace kC := kC.b hY
 replace kM := kM.b hY
 replace R0 := R0.on hY hY.size
 replace RM := RM.on hY hY.size
 clear hY
 rcases bl with _ | _
 · skip
   go_wp2_with (first | go_skip | refine lo_C _ rfl rfl rfl kC ?_ | refine lo_cL _ rfl rfl rfl kC ?_ | refine lo_cJ _ rfl rfl rfl kC ?_ | refine lo_M _ rfl rfl rfl kM ?_ | refine lo_mJ _ rfl rfl rfl kM ?_)
   go_ret
   exact ⟨rfl, HB⟩
 have hm60 := Lib.hid (hbl.out rfl)
 clear hbl
 go_wp2_with (first | go_skip | refine lo_C _ rfl rfl rfl kC ?_ | refine lo_cL _ rfl rfl rfl kC ?_ | refine lo_cJ _ rfl rfl rfl kC ?_ | refine lo_M _ rfl rfl rfl kM ?_ | refine lo_mJ _ rfl rfl rfl kM ?_)
 have CC := cor.rmay_any c A n p y5 y5.heap.size R0 (Nat.le_refl _) hp2.out (by have := hn60.out; omega) HJ.out HOk.out
 obtain ⟨mk, hmk⟩ : ∃ q, mayK c = q := ⟨_, rfl⟩
 rw [hmk] at CC
 refine (CC).mono ?_
 rintro e y6 ⟨rfl, hY⟩
 replace HB := bt HB hY
 replace kC := kC.b hY
 replace kM := kM.b hY
 replace R0 := R0.on hY hY.size
 replace RM := RM.on hY hY.size
 clear hY
 clear CC
 replace hmk := Lib.hid hmk
 rcases mk with _ | _
 · skip
   go_wp2_with (first | go_skip | refine lo_C _ rfl rfl rfl kC ?_ | refine lo_cL _ rfl rfl rfl kC ?_ | refine lo_cJ _ rfl rfl rfl kC ?_ | refine lo_M _ rfl rfl rfl kM ?_ | refine lo_mJ _ rfl rfl rfl kM ?_)
   go_ret
   exact ⟨rfl, HB⟩
 have hG : Hid (GoodK c) := Lib.hid (good_may hmk.out (by rw [R0.1]; have := hn60.out; omega) HV.out.1 HV.out.2)
 obtain ⟨mm, hmm⟩ : ∃ q, m.m = q := ⟨_, rfl⟩
 replace hmm := Lib.hid hmm
 obtain ⟨tm, htm⟩ : ∃ q, c.tm = q := ⟨_, rfl⟩
 replace htm := Lib.hid htm
 obtain ⟨mt, hmt⟩ : ∃ q, m.t = q := ⟨_, rfl⟩
 replace hmt := Lib.hid hmt
 obtain ⟨id, hid⟩ : ∃ q, c.id = q := ⟨_, rfl⟩
 replace hid := Lib.hid hid
 obtain ⟨mf, hmf⟩ : ∃ q, m.f = q := ⟨_, rfl⟩
 replace hmf := Lib.hid hmf
 obtain ⟨mk, hmk⟩ : ∃ q, m.k = q := ⟨_, rfl⟩
 replace hmk := Lib.hid hmk
 obtain ⟨ro, hro⟩ : ∃ q, c.ro = q := ⟨_, rfl⟩
 replace hro := Lib.hid hro
 obtain ⟨le, hle⟩ : ∃ q, c.le = q := ⟨_, rfl⟩
 replace hle := Lib.hid hle
 obtain ⟨wa, hwa⟩ : ∃ q, c.wa = q := ⟨_, rfl⟩
 replace hwa := Lib.hid hwa
 have cmm : y6.cell? ⟨gkM, 3, none⟩ = some (.int .i64 mm) := by rw [← hmm.out]; exact kM.cell 3
 have ctm : y6.cell? ⟨w.heap.size, 2, none⟩ = some (.int .i64 tm) := by rw [← htm.out]; exact kC.cell 2
 have cmt : y6.cell? ⟨gkM, 2, none⟩ = some (.int .i64 mt) := by rw [← hmt.out]; exact kM.cell 2
 have cid : y6.cell? ⟨w.heap.size, 0, none⟩ = some (.int .i64 id) := by rw [← hid.out]; exact kC.cell 0
 have cmf : y6.cell? ⟨gkM, 1, none⟩ = some (.int .i64 mf) := by rw [← hmf.out]; exact kM.cell 1
 by_cases g0 : mm ≥ tm
 · skip
   go_wp2_with (first | go_skip | refine lo_C _ rfl rfl rfl kC ?_ | refine lo_cL _ rfl rfl rfl kC ?_ | refine lo_cJ _ rfl rfl rfl kC ?_ | refine lo_M _ rfl rfl rfl kM ?_ | refine lo_mJ _ rfl rfl rfl kM ?_)
   go_ret
   exact ⟨rfl, HB⟩
 by_cases g1 : mm < 1
 · skip
   go_wp2_with (first | go_skip | refine lo_C _ rfl rfl rfl kC ?_ | refine lo_cL _ rfl rfl rfl kC ?_ | refine lo_cJ _ rfl rfl rfl kC ?_ | refine lo_M _ rfl rfl rfl kM ?_ | refine lo_mJ _ rfl rfl rfl kM ?_)
   go_ret
   exact ⟨rfl, HB⟩
 by_cases g2 : (mt != id) = true
 · skip
   go_wp2_with (first | go_skip | refine lo_C _ rfl rfl rfl kC ?_ | refine lo_cL _ rfl rfl rfl kC ?_ | refine lo_cJ _ rfl rfl rfl kC ?_ | refine lo_M _ rfl rfl rfl kM ?_ | refine lo_mJ _ rfl rfl rfl kM ?_)
   go_ret
   exact ⟨rfl, HB⟩
 replace g2 : (mt != id) = false := by revert g2; cases (mt != id) <;> simp
 by_cases g3 : mf < 1
 · skip
   go_wp2_with (first | go_skip | refine lo_C _ rfl rfl rfl kC ?_ | refine lo_cL _ rfl rfl rfl kC ?_ | refine lo_cJ _ rfl rfl rfl kC ?_ | refine lo_M _ rfl rfl rfl kM ?_ | refine lo_mJ _ rfl rfl rfl kM ?_)
   go_ret
   exact ⟨rfl, HB⟩
 by_cases g4 : mf > 9
 · skip
   go_wp2_with (first | go_skip | refine lo_C _ rfl rfl rfl kC ?_ | refine lo_cL _ rfl rfl rfl kC ?_ | refine lo_cJ _ rfl rfl rfl kC ?_ | refine lo_M _ rfl rfl rfl kM ?_ | refine lo_mJ _ rfl rfl rfl kM ?_)
   go_ret
   exact ⟨rfl, HB⟩
 by_cases g5 : (mf == id) = true
 · skip
   go_wp2_with (first | go_skip | refine lo_C _ rfl rfl rfl kC ?_ | refine lo_cL _ rfl rfl rfl kC ?_ | refine lo_cJ _ rfl rfl rfl kC ?_ | refine lo_M _ rfl rfl rfl kM ?_ | refine lo_mJ _ rfl rfl rfl kM ?_)
   go_ret
   exact ⟨rfl, HB⟩
 replace g5 : (mf == id) = false := by revert g5; cases (mf == id) <;> simp
 go_wp2_with (first | go_skip | refine lo_C _ rfl rfl rfl kC ?_ | refine lo_cL _ rfl rfl rfl kC ?_ | refine lo_cJ _ rfl rfl rfl kC ?_ | refine lo_M _ rfl rfl rfl kM ?_ | refine lo_mJ _ rfl rfl rfl kM ?_)
 have hst := Lib.hid (step_stale (c := c) (m := m) (by rw [hmm.out]; omega) (by rw [hmm.out, htm.out]; omega) (by rw [hmt.out, hid.out]; simpa using g2) (by rw [hmf.out]; unfold se.nodeB; rw [decide_eq_true (show (1 : Int) ≤ mf by omega), decide_eq_true (show mf ≤ 9 by omega)]; rfl) (by rw [hmf.out, hid.out]; simpa using g5) hG.out.tm.2)
 clear cmm ctm cmt cid cmf
 replace g0 := Lib.hid g0
 replace g1 := Lib.hid g1
 replace g2 := Lib.hid g2
 replace g3 := Lib.hid g3
 replace g4 := Lib.hid g4
 replace g5 := Lib.hid g5
 have CC := cor.stepStale_any c A n p m Am nm pm y6 y6.heap.size R0 (Nat.le_refl _) hp2.out y6.heap.size RM (Nat.le_refl _) hpm2.out hG.out HMok.out HMJ.out (by rw [R0.1]; have := hn60.out; omega) (by rw [RM.1]; have := hm60.out; omega) (by rw [hmm.out, htm.out]; have := g0.out; omega)
 obtain ⟨sk, hsk⟩ : ∃ q, stickyB c = q := ⟨_, rfl⟩
 rw [hsk] at hst
 obtain ⟨OUT, hOUT⟩ : ∃ q, (stepF c m).2 = q := ⟨_, rfl⟩
 have e1 : (stepF c m).1 = c := by rw [hst.out]
 rw [hOUT, e1] at CC
 clear e1
 replace hOUT := Lib.hid hOUT
 replace hsk := Lib.hid hsk
 refine CC.mono ?_
 rintro e y7 ⟨A1, n1, p1, v9, B9, rfl, RB, hp1, ON9, hO, hB9, hB8, hY⟩
 have R1 := RB.more hB8
 obtain ⟨Ao, co, xs, rfl, hxs, XO, -⟩ := hO.in_ hB8
 clear RB ON9 hO hB9 hB8 CC
 replace hp1 := Lib.hid hp1
 replace hxs := Lib.hid hxs
 obtain ⟨L, hL⟩ : ∃ q, OUT.length = q := ⟨_, rfl⟩
 rw [hL] at XO ⊢
 replace hL := Lib.hid hL
 replace HB := bt HB hY
 replace kC := kC.b hY
 replace kM := kM.b hY
 replace R0 := R0.on hY hY.size
 replace RM := RM.on hY hY.size
 clear hY
 have LTkCkD := Lib.hid kC.lt
 have LTkMkD := Lib.hid kM.lt
 have NIR0kD := Lib.hid (NotIn.of_rd R0 (Nat.le_refl _))
 have NIRMkD := Lib.hid (NotIn.of_rd RM (Nat.le_refl _))
 have NIR1kD := Lib.hid (NotIn.of_rd R1 (Nat.le_refl _))
 have LEkD : Hid (w.heap.size ≤ y7.heap.size) := HB.size
 have NIXOkD := Lib.hid (NotM.of_in XO (Nat.le_refl _))
 go_wp2_with (first | go_skip | refine al_C rfl rfl ?_ | (first | refine lo_C _ rfl rfl rfl kC ?_ | refine lo_cL _ rfl rfl rfl kC ?_ | refine lo_cJ _ rfl rfl rfl kC ?_ | refine lo_M _ rfl rfl rfl kM ?_ | refine lo_mJ _ rfl rfl rfl kM ?_))
 intro y8 kD e8 s8
 clear s8
 replace kD : Blk _ _ _ (crC zC (.slice none 0 0)) := kD
 replace HB := bt HB e8
 replace kC := kC.b e8
 replace kM := kM.b e8
 replace R0 := R0.on e8 e8.size
 replace RM := RM.on e8 e8.size
 replace R1 := R1.on e8 e8.size
 replace XO := XO.on e8 e8.size
 clear e8
 generalize y7.heap.size = gkD at *
 go_wp2_with (first | go_skip | refine st_C rfl _ _ rfl c A1 n1 p1 rfl rfl _ kD rfl ?_ | (first | refine lo_C _ rfl rfl rfl kC ?_ | refine lo_cL _ rfl rfl rfl kC ?_ | refine lo_cJ _ rfl rfl rfl kC ?_ | refine lo_M _ rfl rfl rfl kM ?_ | refine lo_mJ _ rfl rfl rfl kM ?_ | refine lo_C _ rfl rfl rfl kD ?_ | refine lo_cL _ rfl rfl rfl kD ?_ | refine lo_cJ _ rfl rfl rfl kD ?_))
 intro y9 kD2 pO
 replace kC := kC.put pO (Nat.ne_of_lt LTkCkD.out)
 replace kM := kM.put pO (Nat.ne_of_lt LTkMkD.out)
 replace R0 := R0.putS pO NIR0kD.out
 replace RM := RM.putS pO NIRMkD.out
 replace R1 := R1.putS pO NIR1kD.out
 replace XO := XO.putS pO NIXOkD.out
 replace HB := pO.below _ _ HB LEkD.out
 clear kD
 have kD := kD2
 clear kD2 pO
 go_wp2_with (first | go_skip | refine lo_C _ rfl rfl rfl kC ?_ | refine lo_cL _ rfl rfl rfl kC ?_ | refine lo_cJ _ rfl rfl rfl kC ?_ | refine lo_M _ rfl rfl rfl kM ?_ | refine lo_mJ _ rfl rfl rfl kM ?_ | refine lo_C _ rfl rfl rfl kD ?_ | refine lo_cL _ rfl rfl rfl kD ?_ | refine lo_cJ _ rfl rfl rfl kD ?_)
 have CC := ref13.same_eq c A n p A1 n1 p1 y9 R0 R1 (by have := hn60.out; omega)
 refine (CC).mono ?_
 rintro e y10 ⟨rfl, hY⟩
 replace HB := bt HB hY
 replace kC := kC.b hY
 replace kM := kM.b hY
 replace kD := kD.b hY
 replace R0 := R0.on hY hY.size
 replace RM := RM.on hY hY.size
 replace R1 := R1.on hY hY.size
 replace XO := XO.on hY hY.size
 clear hY
 clear CC
 clear kD
 clear R1
 have cro : y10.cell? ⟨w.heap.size, 1, none⟩ = some (.int .i64 ro) := by rw [← hro.out]; exact kC.cell 1
 have cle : y10.cell? ⟨w.heap.size, 4, none⟩ = some (.int .i64 le) := by rw [← hle.out]; exact kC.cell 4
 have cwa : y10.cell? ⟨w.heap.size, 5, none⟩ = some (.int .i64 wa) := by rw [← hwa.out]; exact kC.cell 5
 have hbk : Hid (sk = (ro == 2 || (!(le == 0) && decide (wa < 10)))) := by show _ = _; rw [← hsk.out, ← hro.out, ← hle.out, ← hwa.out]; rfl
 have hkm : Hid (∀ b, stickyB c = b → OUT = if m.k = 1 then (if b = true then [] else [sayF c m.f { zM with k := 2 }]) else if m.k = 3 ∨ m.k = 5 then [sayF c m.f { zM with k := 4 }] else []) := by
   intro b hb
   rw [← hOUT.out, hst.out, hsk.out.symm, hb]
 clear hst
 by_cases w1 : (ro == 2) = true
 · skip
   have cmk : y10.cell? ⟨gkM, 0, none⟩ = some (.int .i64 mk) := by rw [← hmk.out]; exact kM.cell 0
   by_cases gk : mk = 1
   · skip
     replace gk := Lib.hid gk
     have hsk2 : stickyB c = true := by rw [hsk.out, hbk.out]; rw [w1]; rfl
     have hk1 : m.k = 1 := by rw [hmk.out, gk.out]
     have hO1 : OUT = [] := by
       rw [hkm.out _ hsk2]
       rw [if_pos hk1]; rfl
     obtain rfl : L = 0 := by rw [← hL.out, hO1]; rfl
     clear hO1 hk1 hsk2 XO
     have ctm : y10.cell? ⟨w.heap.size, 2, none⟩ = some (.int .i64 tm) := by rw [← htm.out]; exact kC.cell 2
     have cmf : y10.cell? ⟨gkM, 1, none⟩ = some (.int .i64 mf) := by rw [← hmf.out]; exact kM.cell 1
     obtain rfl := gk.out
     go_upto_region 11 with (go_skip)
     clear cro cle cwa cmk
     go_quiet (fail)
     go_wp2_with go_skip
     go_ret
     first | exact ⟨by first | rfl | simp, HB⟩ | exact ⟨by first | rfl | simp, below_drewN HB _⟩
   have gk1 := Lib.hid gk
   clear gk
   by_cases gk : mk = 3
   · skip
     replace gk := Lib.hid gk
     have hsk2 : stickyB c = true := by rw [hsk.out, hbk.out]; rw [w1]; rfl
     have hk1 : m.k = 3 := by rw [hmk.out, gk.out]
     have hO1 : OUT = [sayF c m.f { zM with k := 4 }] := by
       rw [hkm.out _ hsk2]
       rw [if_neg (by omega), if_pos (by omega)]
     obtain rfl : L = 1 := by rw [← hL.out, hO1]; rfl
     obtain ⟨xb, xo, x, xA, xn, xp, rfl, -, hx, -, -, hAt, -⟩ := XO.at_ (j := 0) (by omega)
     have hx1 : x.1 = sayF c m.f { zM with k := 4 } := by
       have h := congrArg (fun l => l[0]?) hxs.out
       simp only [List.getElem?_map, hx, hO1] at h
       exact Option.some.inj h
     rw [hx1, Nat.zero_mul, Nat.add_zero] at hAt
     have q0 : y10.cell? ⟨xb, xo, none⟩ = some (.int .i64 4) := hAt 0 _ rfl
     have q8 : y10.cell? ⟨xb, xo + 8, none⟩ = some (.bool false) := hAt 8 _ rfl
     have q3 : y10.cell? ⟨xb, xo + 3, none⟩ = some (.int .i64 tm) := by rw [← htm.out]; exact hAt 3 _ rfl
     have q2 : y10.cell? ⟨xb, xo + 2, none⟩ = some (.int .i64 mf) := by rw [← hmf.out]; exact hAt 2 _ rfl
     clear hAt hx hx1
     clear hO1 hk1 hsk2 XO
     have ctm : y10.cell? ⟨w.heap.size, 2, none⟩ = some (.int .i64 tm) := by rw [← htm.out]; exact kC.cell 2
     have cmf : y10.cell? ⟨gkM, 1, none⟩ = some (.int .i64 mf) := by rw [← hmf.out]; exact kM.cell 1
     obtain rfl := gk.out
     go_upto_region 14 with (go_skip)
     clear cro cle cwa cmk
     go_quiet (fail)
     go_wp2_with go_skip
     go_ret
     first | exact ⟨by first | rfl | simp, HB⟩ | exact ⟨by first | rfl | simp, below_drewN HB _⟩
   have gk3 := Lib.hid gk
   clear gk
   by_cases gk : mk = 5
   · skip
     replace gk := Lib.hid gk
     have hsk2 : stickyB c = true := by rw [hsk.out, hbk.out]; rw [w1]; rfl
     have hk1 : m.k = 5 := by rw [hmk.out, gk.out]
     have hO1 : OUT = [sayF c m.f { zM with k := 4 }] := by
       rw [hkm.out _ hsk2]
       rw [if_neg (by omega), if_pos (by omega)]
     obtain rfl : L = 1 := by rw [← hL.out, hO1]; rfl
     obtain ⟨xb, xo, x, xA, xn, xp, rfl, -, hx, -, -, hAt, -⟩ := XO.at_ (j := 0) (by omega)
     have hx1 : x.1 = sayF c m.f { zM with k := 4 } := by
       have h := congrArg (fun l => l[0]?) hxs.out
       simp only [List.getElem?_map, hx, hO1] at h
       exact Option.some.inj h
     rw [hx1, Nat.zero_mul, Nat.add_zero] at hAt
     have q0 : y10.cell? ⟨xb, xo, none⟩ = some (.int .i64 4) := hAt 0 _ rfl
     have q8 : y10.cell? ⟨xb, xo + 8, none⟩ = some (.bool false) := hAt 8 _ rfl
     have q3 : y10.cell? ⟨xb, xo + 3, none⟩ = some (.int .i64 tm) := by rw [← htm.out]; exact hAt 3 _ rfl
     have q2 : y10.cell? ⟨xb, xo + 2, none⟩ = some (.int .i64 mf) := by rw [← hmf.out]; exact hAt 2 _ rfl
     clear hAt hx hx1
     clear hO1 hk1 hsk2 XO
     have ctm : y10.cell? ⟨w.heap.size, 2, none⟩ = some (.int .i64 tm) := by rw [← htm.out]; exact kC.cell 2
     have cmf : y10.cell? ⟨gkM, 1, none⟩ = some (.int .i64 mf) := by rw [← hmf.out]; exact kM.cell 1
     obtain rfl := gk.out
     go_upto_region 14 with (go_skip)
     clear cro cle cwa cmk
     go_quiet (fail)
     go_wp2_with go_skip
     go_ret
     first | exact ⟨by first | rfl | simp, HB⟩ | exact ⟨by first | rfl | simp, below_drewN HB _⟩
   have gk5 := Lib.hid gk
   clear gk
   have gk : Hid (mk ≠ 1 ∧ mk ≠ 3 ∧ mk ≠ 5) := ⟨gk1.out, gk3.out, gk5.out⟩
   clear gk1 gk3 gk5
   have hsk2 : stickyB c = true := by rw [hsk.out, hbk.out]; rw [w1]; rfl
   have hk1 : m.k ≠ 1 ∧ m.k ≠ 3 ∧ m.k ≠ 5 := by rw [hmk.out]; exact gk.out
   have hO1 : OUT = [] := by
     rw [hkm.out _ hsk2]
     rw [if_neg hk1.1, if_neg (by omega)]
   obtain rfl : L = 0 := by rw [← hL.out, hO1]; rfl
   clear hO1 hk1 hsk2 XO
   have ctm : y10.cell? ⟨w.heap.size, 2, none⟩ = some (.int .i64 tm) := by rw [← htm.out]; exact kC.cell 2
   have cmf : y10.cell? ⟨gkM, 1, none⟩ = some (.int .i64 mf) := by rw [← hmf.out]; exact kM.cell 1
   have n1 := (beq_eq_false_iff_ne (a := mk) (b := 1)).2 gk.out.1
   have n3 := (beq_eq_false_iff_ne (a := mk) (b := 3)).2 gk.out.2.1
   have n5 := (beq_eq_false_iff_ne (a := mk) (b := 5)).2 gk.out.2.2
   go_wp2_with go_skip
   go_ret
   first | exact ⟨by first | rfl | simp, HB⟩ | exact ⟨by first | rfl | simp, below_drewN HB _⟩
 replace w1 : (ro == 2) = false := by revert w1; cases (ro == 2) <;> simp
 by_cases w2 : le = 0
 · skip
   have w3 : (le != 0) = false := by simp [w2]
   have w4 := Lib.hid w2
   clear w2
   have cmk : y10.cell? ⟨gkM, 0, none⟩ = some (.int .i64 mk) := by rw [← hmk.out]; exact kM.cell 0
   by_cases gk : mk = 1
   · skip
     replace gk := Lib.hid gk
     have hsk2 : stickyB c = false := by rw [hsk.out, hbk.out]; rw [w1, w4.out]; rfl
     have hk1 : m.k = 1 := by rw [hmk.out, gk.out]
     have hO1 : OUT = [sayF c m.f { zM with k := 2 }] := by
       rw [hkm.out _ hsk2]
       rw [if_pos hk1]; rfl
     obtain rfl : L = 1 := by rw [← hL.out, hO1]; rfl
     obtain ⟨xb, xo, x, xA, xn, xp, rfl, -, hx, -, -, hAt, -⟩ := XO.at_ (j := 0) (by omega)
     have hx1 : x.1 = sayF c m.f { zM with k := 2 } := by
       have h := congrArg (fun l => l[0]?) hxs.out
       simp only [List.getElem?_map, hx, hO1] at h
       exact Option.some.inj h
     rw [hx1, Nat.zero_mul, Nat.add_zero] at hAt
     have q0 : y10.cell? ⟨xb, xo, none⟩ = some (.int .i64 2) := hAt 0 _ rfl
     have q8 : y10.cell? ⟨xb, xo + 8, none⟩ = some (.bool false) := hAt 8 _ rfl
     have q3 : y10.cell? ⟨xb, xo + 3, none⟩ = some (.int .i64 tm) := by rw [← htm.out]; exact hAt 3 _ rfl
     have q2 : y10.cell? ⟨xb, xo + 2, none⟩ = some (.int .i64 mf) := by rw [← hmf.out]; exact hAt 2 _ rfl
     clear hAt hx hx1
     clear hO1 hk1 hsk2 XO
     have ctm : y10.cell? ⟨w.heap.size, 2, none⟩ = some (.int .i64 tm) := by rw [← htm.out]; exact kC.cell 2
     have cmf : y10.cell? ⟨gkM, 1, none⟩ = some (.int .i64 mf) := by rw [← hmf.out]; exact kM.cell 1
     obtain rfl := gk.out
     go_upto_region 11 with (go_skip)
     clear cro cle cwa cmk
     go_quiet (fail)
     go_wp2_with go_skip
     go_ret
     first | exact ⟨by first | rfl | simp, HB⟩ | exact ⟨by first | rfl | simp, below_drewN HB _⟩
   have gk1 := Lib.hid gk
   clear gk
   by_cases gk : mk = 3
   · skip
     replace gk := Lib.hid gk
     have hsk2 : stickyB c = false := by rw [hsk.out, hbk.out]; rw [w1, w4.out]; rfl
     have hk1 : m.k = 3 := by rw [hmk.out, gk.out]
     have hO1 : OUT = [sayF c m.f { zM with k := 4 }] := by
       rw [hkm.out _ hsk2]
       rw [if_neg (by omega), if_pos (by omega)]
     obtain rfl : L = 1 := by rw [← hL.out, hO1]; rfl
     obtain ⟨xb, xo, x, xA, xn, xp, rfl, -, hx, -, -, hAt, -⟩ := XO.at_ (j := 0) (by omega)
     have hx1 : x.1 = sayF c m.f { zM with k := 4 } := by
       have h := congrArg (fun l => l[0]?) hxs.out
       simp only [List.getElem?_map, hx, hO1] at h
       exact Option.some.inj h
     rw [hx1, Nat.zero_mul, Nat.add_zero] at hAt
     have q0 : y10.cell? ⟨xb, xo, none⟩ = some (.int .i64 4) := hAt 0 _ rfl
     have q8 : y10.cell? ⟨xb, xo + 8, none⟩ = some (.bool false) := hAt 8 _ rfl
     have q3 : y10.cell? ⟨xb, xo + 3, none⟩ = some (.int .i64 tm) := by rw [← htm.out]; exact hAt 3 _ rfl
     have q2 : y10.cell? ⟨xb, xo + 2, none⟩ = some (.int .i64 mf) := by rw [← hmf.out]; exact hAt 2 _ rfl
     clear hAt hx hx1
     clear hO1 hk1 hsk2 XO
     have ctm : y10.cell? ⟨w.heap.size, 2, none⟩ = some (.int .i64 tm) := by rw [← htm.out]; exact kC.cell 2
     have cmf : y10.cell? ⟨gkM, 1, none⟩ = some (.int .i64 mf) := by rw [← hmf.out]; exact kM.cell 1
     obtain rfl := gk.out
     go_upto_region 14 with (go_skip)
     clear cro cle cwa cmk
     go_quiet (fail)
     go_wp2_with go_skip
     go_ret
     first | exact ⟨by first | rfl | simp, HB⟩ | exact ⟨by first | rfl | simp, below_drewN HB _⟩
   have gk3 := Lib.hid gk
   clear gk
   by_cases gk : mk = 5
   · skip
     replace gk := Lib.hid gk
     have hsk2 : stickyB c = false := by rw [hsk.out, hbk.out]; rw [w1, w4.out]; rfl
     have hk1 : m.k = 5 := by rw [hmk.out, gk.out]
     have hO1 : OUT = [sayF c m.f { zM with k := 4 }] := by
       rw [hkm.out _ hsk2]
       rw [if_neg (by omega), if_pos (by omega)]
     obtain rfl : L = 1 := by rw [← hL.out, hO1]; rfl
     obtain ⟨xb, xo, x, xA, xn, xp, rfl, -, hx, -, -, hAt, -⟩ := XO.at_ (j := 0) (by omega)
     have hx1 : x.1 = sayF c m.f { zM with k := 4 } := by
       have h := congrArg (fun l => l[0]?) hxs.out
       simp only [List.getElem?_map, hx, hO1] at h
       exact Option.some.inj h
     rw [hx1, Nat.zero_mul, Nat.add_zero] at hAt
     have q0 : y10.cell? ⟨xb, xo, none⟩ = some (.int .i64 4) := hAt 0 _ rfl
     have q8 : y10.cell? ⟨xb, xo + 8, none⟩ = some (.bool false) := hAt 8 _ rfl
     have q3 : y10.cell? ⟨xb, xo + 3, none⟩ = some (.int .i64 tm) := by rw [← htm.out]; exact hAt 3 _ rfl
     have q2 : y10.cell? ⟨xb, xo + 2, none⟩ = some (.int .i64 mf) := by rw [← hmf.out]; exact hAt 2 _ rfl
     clear hAt hx hx1
     clear hO1 hk1 hsk2 XO
     have ctm : y10.cell? ⟨w.heap.size, 2, none⟩ = some (.int .i64 tm) := by rw [← htm.out]; exact kC.cell 2
     have cmf : y10.cell? ⟨gkM, 1, none⟩ = some (.int .i64 mf) := by rw [← hmf.out]; exact kM.cell 1
     obtain rfl := gk.out
     go_upto_region 14 with (go_skip)
     clear cro cle cwa cmk
     go_quiet (fail)
     go_wp2_with go_skip
     go_ret
     first | exact ⟨by first | rfl | simp, HB⟩ | exact ⟨by first | rfl | simp, below_drewN HB _⟩
   have gk5 := Lib.hid gk
   clear gk
   have gk : Hid (mk ≠ 1 ∧ mk ≠ 3 ∧ mk ≠ 5) := ⟨gk1.out, gk3.out, gk5.out⟩
   clear gk1 gk3 gk5
   have hsk2 : stickyB c = false := by rw [hsk.out, hbk.out]; rw [w1, w4.out]; rfl
   have hk1 : m.k ≠ 1 ∧ m.k ≠ 3 ∧ m.k ≠ 5 := by rw [hmk.out]; exact gk.out
   have hO1 : OUT = [] := by
     rw [hkm.out _ hsk2]
     rw [if_neg hk1.1, if_neg (by omega)]
   obtain rfl : L = 0 := by rw [← hL.out, hO1]; rfl
   clear hO1 hk1 hsk2 XO
   have ctm : y10.cell? ⟨w.heap.size, 2, none⟩ = some (.int .i64 tm) := by rw [← htm.out]; exact kC.cell 2
   have cmf : y10.cell? ⟨gkM, 1, none⟩ = some (.int .i64 mf) := by rw [← hmf.out]; exact kM.cell 1
   have n1 := (beq_eq_false_iff_ne (a := mk) (b := 1)).2 gk.out.1
   have n3 := (beq_eq_false_iff_ne (a := mk) (b := 3)).2 gk.out.2.1
   have n5 := (beq_eq_false_iff_ne (a := mk) (b := 5)).2 gk.out.2.2
   go_wp2_with go_skip
   go_ret
   first | exact ⟨by first | rfl | simp, HB⟩ | exact ⟨by first | rfl | simp, below_drewN HB _⟩
 have w3 : (le != 0) = true := by simp [w2]
 have w4 : Hid ((le == 0) = false) := by show _ = _; simp [w2]
 clear w2
 by_cases w5 : wa < 10
 · skip
   have cmk : y10.cell? ⟨gkM, 0, none⟩ = some (.int .i64 mk) := by rw [← hmk.out]; exact kM.cell 0
   by_cases gk : mk = 1
   · skip
     replace gk := Lib.hid gk
     have hsk2 : stickyB c = true := by rw [hsk.out, hbk.out]; rw [w1, w4.out, decide_eq_true (by omega)]; rfl
     have hk1 : m.k = 1 := by rw [hmk.out, gk.out]
     have hO1 : OUT = [] := by
       rw [hkm.out _ hsk2]
       rw [if_pos hk1]; rfl
     obtain rfl : L = 0 := by rw [← hL.out, hO1]; rfl
     clear hO1 hk1 hsk2 XO
     have ctm : y10.cell? ⟨w.heap.size, 2, none⟩ = some (.int .i64 tm) := by rw [← htm.out]; exact kC.cell 2
     have cmf : y10.cell? ⟨gkM, 1, none⟩ = some (.int .i64 mf) := by rw [← hmf.out]; exact kM.cell 1
     obtain rfl := gk.out
     go_upto_region 11 with (go_skip)
     clear cro cle cwa cmk
     go_quiet (fail)
     go_wp2_with go_skip
     go_ret
     first | exact ⟨by first | rfl | simp, HB⟩ | exact ⟨by first | rfl | simp, below_drewN HB _⟩
   have gk1 := Lib.hid gk
   clear gk
   by_cases gk : mk = 3
   · skip
     replace gk := Lib.hid gk
     have hsk2 : stickyB c = true := by rw [hsk.out, hbk.out]; rw [w1, w4.out, decide_eq_true (by omega)]; rfl
     have hk1 : m.k = 3 := by rw [hmk.out, gk.out]
     have hO1 : OUT = [sayF c m.f { zM with k := 4 }] := by
       rw [hkm.out _ hsk2]
       rw [if_neg (by omega), if_pos (by omega)]
     obtain rfl : L = 1 := by rw [← hL.out, hO1]; rfl
     obtain ⟨xb, xo, x, xA, xn, xp, rfl, -, hx, -, -, hAt, -⟩ := XO.at_ (j := 0) (by omega)
     have hx1 : x.1 = sayF c m.f { zM with k := 4 } := by
       have h := congrArg (fun l => l[0]?) hxs.out
       simp only [List.getElem?_map, hx, hO1] at h
       exact Option.some.inj h
     rw [hx1, Nat.zero_mul, Nat.add_zero] at hAt
     have q0 : y10.cell? ⟨xb, xo, none⟩ = some (.int .i64 4) := hAt 0 _ rfl
     have q8 : y10.cell? ⟨xb, xo + 8, none⟩ = some (.bool false) := hAt 8 _ rfl
     have q3 : y10.cell? ⟨xb, xo + 3, none⟩ = some (.int .i64 tm) := by rw [← htm.out]; exact hAt 3 _ rfl
     have q2 : y10.cell? ⟨xb, xo + 2, none⟩ = some (.int .i64 mf) := by rw [← hmf.out]; exact hAt 2 _ rfl
     clear hAt hx hx1
     clear hO1 hk1 hsk2 XO
     have ctm : y10.cell? ⟨w.heap.size, 2, none⟩ = some (.int .i64 tm) := by rw [← htm.out]; exact kC.cell 2
     have cmf : y10.cell? ⟨gkM, 1, none⟩ = some (.int .i64 mf) := by rw [← hmf.out]; exact kM.cell 1
     obtain rfl := gk.out
     go_upto_region 14 with (go_skip)
     clear cro cle cwa cmk
     go_quiet (fail)
     go_wp2_with go_skip
     go_ret
     first | exact ⟨by first | rfl | simp, HB⟩ | exact ⟨by first | rfl | simp, below_drewN HB _⟩
   have gk3 := Lib.hid gk
   clear gk
   by_cases gk : mk = 5
   · skip
     replace gk := Lib.hid gk
     have hsk2 : stickyB c = true := by rw [hsk.out, hbk.out]; rw [w1, w4.out, decide_eq_true (by omega)]; rfl
     have hk1 : m.k = 5 := by rw [hmk.out, gk.out]
     have hO1 : OUT = [sayF c m.f { zM with k := 4 }] := by
       rw [hkm.out _ hsk2]
       rw [if_neg (by omega), if_pos (by omega)]
     obtain rfl : L = 1 := by rw [← hL.out, hO1]; rfl
     obtain ⟨xb, xo, x, xA, xn, xp, rfl, -, hx, -, -, hAt, -⟩ := XO.at_ (j := 0) (by omega)
     have hx1 : x.1 = sayF c m.f { zM with k := 4 } := by
       have h := congrArg (fun l => l[0]?) hxs.out
       simp only [List.getElem?_map, hx, hO1] at h
       exact Option.some.inj h
     rw [hx1, Nat.zero_mul, Nat.add_zero] at hAt
     have q0 : y10.cell? ⟨xb, xo, none⟩ = some (.int .i64 4) := hAt 0 _ rfl
     have q8 : y10.cell? ⟨xb, xo + 8, none⟩ = some (.bool false) := hAt 8 _ rfl
     have q3 : y10.cell? ⟨xb, xo + 3, none⟩ = some (.int .i64 tm) := by rw [← htm.out]; exact hAt 3 _ rfl
     have q2 : y10.cell? ⟨xb, xo + 2, none⟩ = some (.int .i64 mf) := by rw [← hmf.out]; exact hAt 2 _ rfl
     clear hAt hx hx1
     clear hO1 hk1 hsk2 XO
     have ctm : y10.cell? ⟨w.heap.size, 2, none⟩ = some (.int .i64 tm) := by rw [← htm.out]; exact kC.cell 2
     have cmf : y10.cell? ⟨gkM, 1, none⟩ = some (.int .i64 mf) := by rw [← hmf.out]; exact kM.cell 1
     obtain rfl := gk.out
     go_upto_region 14 with (go_skip)
     clear cro cle cwa cmk
     go_quiet (fail)
     go_wp2_with go_skip
     go_ret
     first | exact ⟨by first | rfl | simp, HB⟩ | exact ⟨by first | rfl | simp, below_drewN HB _⟩
   have gk5 := Lib.hid gk
   clear gk
   have gk : Hid (mk ≠ 1 ∧ mk ≠ 3 ∧ mk ≠ 5) := ⟨gk1.out, gk3.out, gk5.out⟩
   clear gk1 gk3 gk5
   have hsk2 : stickyB c = true := by rw [hsk.out, hbk.out]; rw [w1, w4.out, decide_eq_true (by omega)]; rfl
   have hk1 : m.k ≠ 1 ∧ m.k ≠ 3 ∧ m.k ≠ 5 := by rw [hmk.out]; exact gk.out
   have hO1 : OUT = [] := by
     rw [hkm.out _ hsk2]
     rw [if_neg hk1.1, if_neg (by omega)]
   obtain rfl : L = 0 := by rw [← hL.out, hO1]; rfl
   clear hO1 hk1 hsk2 XO
   have ctm : y10.cell? ⟨w.heap.size, 2, none⟩ = some (.int .i64 tm) := by rw [← htm.out]; exact kC.cell 2
   have cmf : y10.cell? ⟨gkM, 1, none⟩ = some (.int .i64 mf) := by rw [← hmf.out]; exact kM.cell 1
   have n1 := (beq_eq_false_iff_ne (a := mk) (b := 1)).2 gk.out.1
   have n3 := (beq_eq_false_iff_ne (a := mk) (b := 3)).2 gk.out.2.1
   have n5 := (beq_eq_false_iff_ne (a := mk) (b := 5)).2 gk.out.2.2
   go_wp2_with go_skip
   go_ret
   first | exact ⟨by first | rfl | simp, HB⟩ | exact ⟨by first | rfl | simp, below_drewN HB _⟩
 have w6 : decide (wa < 10) = false := decide_eq_false w5
 have w7 := Lib.hid w5
 clear w5
 have cmk : y10.cell? ⟨gkM, 0, none⟩ = some (.int .i64 mk) := by rw [← hmk.out]; exact kM.cell 0
 by_cases gk : mk = 1
 · skip
   replace gk := Lib.hid gk
   have hsk2 : stickyB c = false := by rw [hsk.out, hbk.out]; rw [w1, w4.out, decide_eq_false (by have := w7.out; omega)]; rfl
   have hk1 : m.k = 1 := by rw [hmk.out, gk.out]
   have hO1 : OUT = [sayF c m.f { zM with k := 2 }] := by
     rw [hkm.out _ hsk2]
     rw [if_pos hk1]; rfl
   obtain rfl : L = 1 := by rw [← hL.out, hO1]; rfl
   obtain ⟨xb, xo, x, xA, xn, xp, rfl, -, hx, -, -, hAt, -⟩ := XO.at_ (j := 0) (by omega)
   have hx1 : x.1 = sayF c m.f { zM with k := 2 } := by
     have h := congrArg (fun l => l[0]?) hxs.out
     simp only [List.getElem?_map, hx, hO1] at h
     exact Option.some.inj h
   rw [hx1, Nat.zero_mul, Nat.add_zero] at hAt
   have q0 : y10.cell? ⟨xb, xo, none⟩ = some (.int .i64 2) := hAt 0 _ rfl
   have q8 : y10.cell? ⟨xb, xo + 8, none⟩ = some (.bool false) := hAt 8 _ rfl
   have q3 : y10.cell? ⟨xb, xo + 3, none⟩ = some (.int .i64 tm) := by rw [← htm.out]; exact hAt 3 _ rfl
   have q2 : y10.cell? ⟨xb, xo + 2, none⟩ = some (.int .i64 mf) := by rw [← hmf.out]; exact hAt 2 _ rfl
   clear hAt hx hx1
   clear hO1 hk1 hsk2 XO
   have ctm : y10.cell? ⟨w.heap.size, 2, none⟩ = some (.int .i64 tm) := by rw [← htm.out]; exact kC.cell 2
   have cmf : y10.cell? ⟨gkM, 1, none⟩ = some (.int .i64 mf) := by rw [← hmf.out]; exact kM.cell 1
   obtain rfl := gk.out
   go_upto_region 11 with (go_skip)
   clear cro cle cwa cmk
   go_quiet (fail)
   go_wp2_with go_skip
   go_ret
   first | exact ⟨by first | rfl | simp, HB⟩ | exact ⟨by first | rfl | simp, below_drewN HB _⟩
 have gk1 := Lib.hid gk
 clear gk
 by_cases gk : mk = 3
 · skip
   replace gk := Lib.hid gk
   have hsk2 : stickyB c = false := by rw [hsk.out, hbk.out]; rw [w1, w4.out, decide_eq_false (by have := w7.out; omega)]; rfl
   have hk1 : m.k = 3 := by rw [hmk.out, gk.out]
   have hO1 : OUT = [sayF c m.f { zM with k := 4 }] := by
     rw [hkm.out _ hsk2]
     rw [if_neg (by omega), if_pos (by omega)]
   obtain rfl : L = 1 := by rw [← hL.out, hO1]; rfl
   obtain ⟨xb, xo, x, xA, xn, xp, rfl, -, hx, -, -, hAt, -⟩ := XO.at_ (j := 0) (by omega)
   have hx1 : x.1 = sayF c m.f { zM with k := 4 } := by
     have h := congrArg (fun l => l[0]?) hxs.out
     simp only [List.getElem?_map, hx, hO1] at h
     exact Option.some.inj h
   rw [hx1, Nat.zero_mul, Nat.add_zero] at hAt
   have q0 : y10.cell? ⟨xb, xo, none⟩ = some (.int .i64 4) := hAt 0 _ rfl
   have q8 : y10.cell? ⟨xb, xo + 8, none⟩ = some (.bool false) := hAt 8 _ rfl
   have q3 : y10.cell? ⟨xb, xo + 3, none⟩ = some (.int .i64 tm) := by rw [← htm.out]; exact hAt 3 _ rfl
   have q2 : y10.cell? ⟨xb, xo + 2, none⟩ = some (.int .i64 mf) := by rw [← hmf.out]; exact hAt 2 _ rfl
   clear hAt hx hx1
   clear hO1 hk1 hsk2 XO
   have ctm : y10.cell? ⟨w.heap.size, 2, none⟩ = some (.int .i64 tm) := by rw [← htm.out]; exact kC.cell 2
   have cmf : y10.cell? ⟨gkM, 1, none⟩ = some (.int .i64 mf) := by rw [← hmf.out]; exact kM.cell 1
   obtain rfl := gk.out
   go_upto_region 14 with (go_skip)
   clear cro cle cwa cmk
   go_quiet (fail)
   go_wp2_with go_skip
   go_ret
   first | exact ⟨by first | rfl | simp, HB⟩ | exact ⟨by first | rfl | simp, below_drewN HB _⟩
 have gk3 := Lib.hid gk
 clear gk
 by_cases gk : mk = 5
 · skip
   replace gk := Lib.hid gk
   have hsk2 : stickyB c = false := by rw [hsk.out, hbk.out]; rw [w1, w4.out, decide_eq_false (by have := w7.out; omega)]; rfl
   have hk1 : m.k = 5 := by rw [hmk.out, gk.out]
   have hO1 : OUT = [sayF c m.f { zM with k := 4 }] := by
     rw [hkm.out _ hsk2]
     rw [if_neg (by omega), if_pos (by omega)]
   obtain rfl : L = 1 := by rw [← hL.out, hO1]; rfl
   obtain ⟨xb, xo, x, xA, xn, xp, rfl, -, hx, -, -, hAt, -⟩ := XO.at_ (j := 0) (by omega)
   have hx1 : x.1 = sayF c m.f { zM with k := 4 } := by
     have h := congrArg (fun l => l[0]?) hxs.out
     simp only [List.getElem?_map, hx, hO1] at h
     exact Option.some.inj h
   rw [hx1, Nat.zero_mul, Nat.add_zero] at hAt
   have q0 : y10.cell? ⟨xb, xo, none⟩ = some (.int .i64 4) := hAt 0 _ rfl
   have q8 : y10.cell? ⟨xb, xo + 8, none⟩ = some (.bool false) := hAt 8 _ rfl
   have q3 : y10.cell? ⟨xb, xo + 3, none⟩ = some (.int .i64 tm) := by rw [← htm.out]; exact hAt 3 _ rfl
   have q2 : y10.cell? ⟨xb, xo + 2, none⟩ = some (.int .i64 mf) := by rw [← hmf.out]; exact hAt 2 _ rfl
   clear hAt hx hx1
   clear hO1 hk1 hsk2 XO
   have ctm : y10.cell? ⟨w.heap.size, 2, none⟩ = some (.int .i64 tm) := by rw [← htm.out]; exact kC.cell 2
   have cmf : y10.cell? ⟨gkM, 1, none⟩ = some (.int .i64 mf) := by rw [← hmf.out]; exact kM.cell 1
   obtain rfl := gk.out
   go_upto_region 14 with (go_skip)
   clear cro cle cwa cmk
   go_quiet (fail)
   go_wp2_with go_skip
   go_ret
   first | exact ⟨by first | rfl | simp, HB⟩ | exact ⟨by first | rfl | simp, below_drewN HB _⟩
 have gk5 := Lib.hid gk
 clear gk
 have gk : Hid (mk ≠ 1 ∧ mk ≠ 3 ∧ mk ≠ 5) := ⟨gk1.out, gk3.out, gk5.out⟩
 clear gk1 gk3 gk5
 have hsk2 : stickyB c = false := by rw [hsk.out, hbk.out]; rw [w1, w4.out, decide_eq_false (by have := w7.out; omega)]; rfl
 have hk1 : m.k ≠ 1 ∧ m.k ≠ 3 ∧ m.k ≠ 5 := by rw [hmk.out]; exact gk.out
 have hO1 : OUT = [] := by
   rw [hkm.out _ hsk2]
   rw [if_neg hk1.1, if_neg (by omega)]
 obtain rfl : L = 0 := by rw [← hL.out, hO1]; rfl
 clear hO1 hk1 hsk2 XO
 have ctm : y10.cell? ⟨w.heap.size, 2, none⟩ = some (.int .i64 tm) := by rw [← htm.out]; exact kC.cell 2
 have cmf : y10.cell? ⟨gkM, 1, none⟩ = some (.int .i64 mf) := by rw [← hmf.out]; exact kM.cell 1
 have n1 := (beq_eq_false_iff_ne (a := mk) (b := 1)).2 gk.out.1
 have n3 := (beq_eq_false_iff_ne (a := mk) (b := 3)).2 gk.out.2.1
 have n5 := (beq_eq_false_iff_ne (a := mk) (b := 5)).2 gk.out.2.2
 go_wp2_with go_skip
 go_ret
 first | exact ⟨by first | rfl | simp, HB⟩ | exact ⟨by first | rfl | simp, below_drewN HB _⟩
end Go.Proofs.YtegnfkbmlalkeaaGreat.law13
