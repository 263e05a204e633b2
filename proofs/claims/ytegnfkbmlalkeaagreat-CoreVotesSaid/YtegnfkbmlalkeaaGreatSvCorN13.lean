/- The landed core: ignores, decline. Conditions: those that the theorems name. -/
import Derived.Deep.RegionHeld3
import Derived.Deep.Cut
import Derived.Lib.Hide
import Derived.Test.YtegnfkbmlalkeaaGreatSvJ2
import Derived.Test.YtegnfkbmlalkeaaGreatSvCorA13
import Derived.Test.YtegnfkbmlalkeaaGreatSvKitLg
import Derived.Test.YtegnfkbmlalkeaaGreatSvJ0
namespace Go.Proofs.YtegnfkbmlalkeaaGreat.cor
open Go Go.RowKit Go.Proofs.YtegnfkbmlalkeaaGreat.kit Go.Proofs.YtegnfkbmlalkeaaGreat.nums Go.Proofs.YtegnfkbmlalkeaaGreat.cf Go.Proofs.YtegnfkbmlalkeaaGreat.lg Go.Proofs.YtegnfkbmlalkeaaGreat.cr Go.Proofs.YtegnfkbmlalkeaaGreat.se
set_option linter.unusedVariables false
theorem deaf_form (c : CoL) (m : MsL) : deafB c m = (!(m.t == c.id) || (m.f == c.id || (!nodeB m.f || (!wiB m.m 1 1099511627776 || (decide (m.k < 1) || (decide (6 < m.k) || (m.k == 1 && (c.ro == 2 || (!(c.le == 0) && decide (c.wa < 10)))))))))) := by
 unfold deafB wiB
 have h1 : decide (m.m < 1) = !decide (1 ≤ m.m) := by rw [← decide_not, decide_eq_decide]; omega
 have h2 : decide (1099511627776 < m.m) = !decide (m.m ≤ 1099511627776) := by rw [← decide_not, decide_eq_decide]; omega
 rw [h1, h2]
 cases (m.t == c.id) <;> cases nodeB m.f <;> cases (m.f == c.id) <;> cases decide (1 ≤ m.m) <;> cases decide (m.m ≤ 1099511627776) <;> simp [Bool.or_assoc]
set_option maxHeartbeats 4000000 in
set_option maxRecDepth 10000 in
theorem ignores_any (c : CoL) (A : Option Addr) (n p : Nat) (m : MsL) (Am : Option Addr) (nm pm : Nat) (w : World) : Calls Tryz.prog 74 #[crV c (.slice A n p), msV m (.slice Am nm pm)] w fun e w' => e = .returned (.bool (deafB c m)) ∧ Below w.heap.size w w' := by
 have hDf := deaf_form c m
 obtain ⟨mt, hmt⟩ : ∃ q, m.t = q := ⟨_, rfl⟩
 obtain ⟨mf, hmf⟩ : ∃ q, m.f = q := ⟨_, rfl⟩
 obtain ⟨mm, hmm⟩ : ∃ q, m.m = q := ⟨_, rfl⟩
 obtain ⟨mk, hmk⟩ : ∃ q, m.k = q := ⟨_, rfl⟩
 obtain ⟨id, hid⟩ : ∃ q, c.id = q := ⟨_, rfl⟩
 obtain ⟨ro, hro⟩ : ∃ q, c.ro = q := ⟨_, rfl⟩
 obtain ⟨le, hle⟩ : ∃ q, c.le = q := ⟨_, rfl⟩
 obtain ⟨wa, hwa⟩ : ∃ q, c.wa = q := ⟨_, rfl⟩
 rw [hmt, hmf, hmm, hmk, hid, hro, hle, hwa] at hDf
 replace hDf := Lib.hid hDf
 replace hmt := Lib.hid hmt
 replace hmf := Lib.hid hmf
 replace hmm := Lib.hid hmm
 replace hmk := Lib.hid hmk
 replace hid := Lib.hid hid
 replace hro := Lib.hid hro
 replace hle := Lib.hid hle
 replace hwa := Lib.hid hwa
 go_enter Tryz.func74, Tryz.ntmps74
 go_wp2_with (first | refine box_C rfl _ rfl c (.slice A n p) rfl ?_ | fail)
 intro y1 kC e1 s1
 clear s1
 have HB := e1
 clear e1
 go_wp2_with (first | refine box_M rfl _ rfl m (.slice Am nm pm) rfl ?_ | (first | refine lo_Cj kC ?_ | refine lo_cLj kC ?_ | refine lo_cJj kC ?_))
 intro y2 kM e2 s2
 clear s2
 replace HB := bt HB e2
 replace kC := kC.b e2
 clear e2
 generalize y1.heap.size = gkM at *
 have c_mt : y2.cell? ⟨gkM, 2, none⟩ = some (.int .i64 mt) := by rw [← hmt.out]; exact kM.cell 2
 have c_mf : y2.cell? ⟨gkM, 1, none⟩ = some (.int .i64 mf) := by rw [← hmf.out]; exact kM.cell 1
 have c_mm : y2.cell? ⟨gkM, 3, none⟩ = some (.int .i64 mm) := by rw [← hmm.out]; exact kM.cell 3
 have c_mk : y2.cell? ⟨gkM, 0, none⟩ = some (.int .i64 mk) := by rw [← hmk.out]; exact kM.cell 0
 have c_id : y2.cell? ⟨w.heap.size, 0, none⟩ = some (.int .i64 id) := by rw [← hid.out]; exact kC.cell 0
 have c_ro : y2.cell? ⟨w.heap.size, 1, none⟩ = some (.int .i64 ro) := by rw [← hro.out]; exact kC.cell 1
 have c_le : y2.cell? ⟨w.heap.size, 4, none⟩ = some (.int .i64 le) := by rw [← hle.out]; exact kC.cell 4
 have c_wa : y2.cell? ⟨w.heap.size, 5, none⟩ = some (.int .i64 wa) := by rw [← hwa.out]; exact kC.cell 5
 by_cases h1 : mt = id
 rotate_left
 · skip
   have b1 : (mt != id) = true := by simp [h1]
   have e1 := Lib.hid h1
   clear h1
   have hE : Hid (deafB c m = true) := by
     show _ = _
     rw [hDf.out]
     have := e1.out; simp [this]
   go_wp2_with fail
   go_ret
   rw [hE.out]
   exact ⟨by first | rfl | (simp; omega), HB⟩
 have b1 : (mt != id) = false := by simp [h1]
 have e1 : Hid ((mt == id) = true) := by show _ = _; simp [h1]
 clear h1
 by_cases h2 : mf = id
 · skip
   have b2 : (mf == id) = true := by simp [h2]
   have e2 := Lib.hid b2
   clear h2
   have hE : Hid (deafB c m = true) := by
     show _ = _
     rw [hDf.out]
     rw [e1.out, e2.out]; rfl
   go_wp2_with fail
   go_ret
   rw [hE.out]
   exact ⟨by first | rfl | (simp; omega), HB⟩
 have b2 : (mf == id) = false := by simp [h2]
 have e2 := Lib.hid b2
 clear h2
 obtain ⟨nb, hnb⟩ : ∃ q, nodeB mf = q := ⟨_, rfl⟩
 replace hnb := Lib.hid hnb
 go_wp2_with (first | refine lo_Cj kC ?_ | refine lo_cLj kC ?_ | refine lo_cJj kC ?_ | refine lo_Mj kM ?_ | refine lo_mJj kM ?_)
 have CC := isnode_any mf y2
 rw [hnb.out] at CC
 refine (CC).mono ?_
 rintro e y3 ⟨rfl, hW⟩
 subst hW
 clear CC
 rcases nb with _ | _
 · skip
   have hE : Hid (deafB c m = true) := by
     show _ = _
     rw [hDf.out]
     rw [e1.out, e2.out, hnb.out]; rfl
   go_wp2_with fail
   go_ret
   rw [hE.out]
   exact ⟨by first | rfl | (simp; omega), HB⟩
 obtain ⟨wb, hwb⟩ : ∃ q, wiB mm 1 1099511627776 = q := ⟨_, rfl⟩
 replace hwb := Lib.hid hwb
 have c_mm : y2.cell? ⟨gkM, 3, none⟩ = some (.int .i64 mm) := by rw [← hmm.out]; exact kM.cell 3
 go_wp2_with (first | refine lo_Cj kC ?_ | refine lo_cLj kC ?_ | refine lo_cJj kC ?_ | refine lo_Mj kM ?_ | refine lo_mJj kM ?_)
 have CC := within_any mm 1 1099511627776 y2
 rw [hwb.out] at CC
 refine (CC).mono ?_
 rintro e y4 ⟨rfl, hW⟩
 subst hW
 clear CC
 rcases wb with _ | _
 · skip
   have hE : Hid (deafB c m = true) := by
     show _ = _
     rw [hDf.out]
     rw [e1.out, e2.out, hnb.out, hwb.out]; rfl
   go_wp2_with fail
   go_ret
   rw [hE.out]
   exact ⟨by first | rfl | (simp; omega), HB⟩
 have c_mk : y2.cell? ⟨gkM, 0, none⟩ = some (.int .i64 mk) := by rw [← hmk.out]; exact kM.cell 0
 have c_id : y2.cell? ⟨w.heap.size, 0, none⟩ = some (.int .i64 id) := by rw [← hid.out]; exact kC.cell 0
 have c_ro : y2.cell? ⟨w.heap.size, 1, none⟩ = some (.int .i64 ro) := by rw [← hro.out]; exact kC.cell 1
 have c_le : y2.cell? ⟨w.heap.size, 4, none⟩ = some (.int .i64 le) := by rw [← hle.out]; exact kC.cell 4
 have c_wa : y2.cell? ⟨w.heap.size, 5, none⟩ = some (.int .i64 wa) := by rw [← hwa.out]; exact kC.cell 5
 by_cases k1 : mk = 1
 · skip
   have bk : (mk == 1) = true := by simp [k1]
   have ek := Lib.hid k1
   clear k1
   by_cases h3 : ro = 2
   · skip
     have b3 : (ro == 2) = true := by simp [h3]
     have e3 := Lib.hid h3
     clear h3
     have hE : Hid (deafB c m = true) := by
       show _ = _
       rw [hDf.out]
       rw [e1.out, e2.out, hnb.out, hwb.out]; have a := ek.out; have b := e3.out; simp [a, b]
     go_wp2_with fail
     go_ret
     rw [hE.out]
     exact ⟨by first | rfl | (simp; omega), HB⟩
   have b3 : (ro == 2) = false := by simp [h3]
   have e3 := Lib.hid h3
   clear h3
   by_cases h4 : le = 0
   · skip
     have b4 : (le != 0) = false := by simp [h4]
     have e4 := Lib.hid h4
     clear h4
     have hE : Hid (deafB c m = false) := by
       show _ = _
       rw [hDf.out]
       rw [e1.out, e2.out, hnb.out, hwb.out]; have a := ek.out; have b := e3.out; have d := e4.out; simp [a, b, d]
     go_wp2_with fail
     go_ret
     rw [hE.out]
     exact ⟨by first | rfl | (simp; omega), HB⟩
   have b4 : (le != 0) = true := by simp [h4]
   have e4 := Lib.hid h4
   clear h4
   by_cases h5 : wa < 10
   · skip
     have e5 := Lib.hid h5
     have hE : Hid (deafB c m = true) := by
       show _ = _
       rw [hDf.out]
       rw [e1.out, e2.out, hnb.out, hwb.out]; have a := ek.out; have b := e3.out; have d := e4.out; have f := e5.out; simp [a, b, d, f]
     go_wp2_with fail
     go_ret
     rw [hE.out]
     exact ⟨by first | rfl | (simp; omega), HB⟩
   · skip
     have e5 := Lib.hid h5
     have hE : Hid (deafB c m = false) := by
       show _ = _
       rw [hDf.out]
       rw [e1.out, e2.out, hnb.out, hwb.out]; have a := ek.out; have b := e3.out; have d := e4.out; have f := e5.out; simp [a, b, d]; omega
     go_wp2_with fail
     go_ret
     rw [hE.out]
     exact ⟨by first | rfl | (simp; omega), HB⟩
 have bk : (mk == 1) = false := by simp [k1]
 have ek1 := Lib.hid k1
 clear k1
 by_cases k2 : mk = 2
 · skip
   have bk2 : (mk == 2) = true := by simp [k2]
   have ek := Lib.hid k2
   clear k2
   have hE : Hid (deafB c m = false) := by
     show _ = _
     rw [hDf.out]
     rw [e1.out, e2.out, hnb.out, hwb.out]; have a := ek.out; simp [a]
   go_wp2_with fail
   go_ret
   rw [hE.out]
   exact ⟨by first | rfl | (simp; omega), HB⟩
 have bk2 : (mk == 2) = false := by simp [k2]
 have ek2 := Lib.hid k2
 clear k2
 by_cases k3 : mk = 3
 · skip
   have bk3 : (mk == 3) = true := by simp [k3]
   have ek := Lib.hid k3
   clear k3
   have hE : Hid (deafB c m = false) := by
     show _ = _
     rw [hDf.out]
     rw [e1.out, e2.out, hnb.out, hwb.out]; have a := ek.out; simp [a]
   go_wp2_with fail
   go_ret
   rw [hE.out]
   exact ⟨by first | rfl | (simp; omega), HB⟩
 have bk3 : (mk == 3) = false := by simp [k3]
 have ek3 := Lib.hid k3
 clear k3
 by_cases k4 : mk = 4
 · skip
   have bk4 : (mk == 4) = true := by simp [k4]
   have ek := Lib.hid k4
   clear k4
   have hE : Hid (deafB c m = false) := by
     show _ = _
     rw [hDf.out]
     rw [e1.out, e2.out, hnb.out, hwb.out]; have a := ek.out; simp [a]
   go_wp2_with fail
   go_ret
   rw [hE.out]
   exact ⟨by first | rfl | (simp; omega), HB⟩
 have bk4 : (mk == 4) = false := by simp [k4]
 have ek4 := Lib.hid k4
 clear k4
 by_cases k5 : mk = 5
 · skip
   have bk5 : (mk == 5) = true := by simp [k5]
   have ek := Lib.hid k5
   clear k5
   have hE : Hid (deafB c m = false) := by
     show _ = _
     rw [hDf.out]
     rw [e1.out, e2.out, hnb.out, hwb.out]; have a := ek.out; simp [a]
   go_wp2_with fail
   go_ret
   rw [hE.out]
   exact ⟨by first | rfl | (simp; omega), HB⟩
 have bk5 : (mk == 5) = false := by simp [k5]
 have ek5 := Lib.hid k5
 clear k5
 by_cases k6 : mk = 6
 · skip
   have bk6 : (mk == 6) = true := by simp [k6]
   have ek := Lib.hid k6
   clear k6
   have hE : Hid (deafB c m = false) := by
     show _ = _
     rw [hDf.out]
     rw [e1.out, e2.out, hnb.out, hwb.out]; have a := ek.out; simp [a]
   go_wp2_with fail
   go_ret
   rw [hE.out]
   exact ⟨by first | rfl | (simp; omega), HB⟩
 have bk6 : (mk == 6) = false := by simp [k6]
 have ek6 := Lib.hid k6
 clear k6
 have hE : Hid (deafB c m = true) := by
   show _ = _
   rw [hDf.out]
   rw [e1.out, e2.out, hnb.out, hwb.out]; have a1 := ek1.out; have a2 := ek2.out; have a3 := ek3.out; have a4 := ek4.out; have a5 := ek5.out; have a6 := ek6.out; have h0 : (decide (mk < 1) || decide (6 < mk)) = true := by (rw [← Bool.decide_or, decide_eq_true_eq]; omega)
   rw [← Bool.or_assoc (decide (mk < 1)), h0]; rfl
 go_wp2_with fail
 go_ret
 rw [hE.out]
 exact ⟨by first | rfl | (simp; omega), HB⟩
theorem stale1 {c : CoL} {m : MsL} (h : m.k = 1) : staleF c m = [letM c 2 m.f] := by unfold staleF; rw [if_pos h]; rfl
theorem stale3 {c : CoL} {m : MsL} (h : ¬ m.k = 1) (h3 : m.k = 3 ∨ m.k = 5) : staleF c m = [letM c 4 m.f] := by unfold staleF; rw [if_neg h, if_pos h3]; rfl
theorem stale0 {c : CoL} {m : MsL} (h : ¬ m.k = 1) (h3 : ¬ m.k = 3) (h5 : ¬ m.k = 5) : staleF c m = [] := by unfold staleF; rw [if_neg h, if_neg (fun e => e.elim h3 h5)]
set_option maxHeartbeats 4000000 in
set_option maxRecDepth 10000 in
theorem decline_any (c : CoL) (A : Option Addr) (n p : Nat) (m : MsL) (Am : Option Addr) (nm pm : Nat) (w : World) : Calls Tryz.prog 76 #[crV c (.slice A n p), msV m (.slice Am nm pm)] w fun e w' => ∃ A' n' c' B', e = .returned (.slice A' n' c') ∧ OutL w' B' (.slice A' n' c') (staleF c m) ∧ w.heap.size ≤ B' ∧ B' ≤ w'.heap.size ∧ Below w.heap.size w w' := by
 obtain ⟨mk, hmk⟩ : ∃ q, m.k = q := ⟨_, rfl⟩
 obtain ⟨mf, hmf⟩ : ∃ q, m.f = q := ⟨_, rfl⟩
 have h1 := Lib.hid (fun h => stale1 (c := c) (m := m) h)
 have h3 := Lib.hid (fun h h3 => stale3 (c := c) (m := m) h h3)
 have h0 := Lib.hid (fun h h3 h5 => stale0 (c := c) (m := m) h h3 h5)
 rw [hmk] at h1 h3 h0
 rw [hmf] at h1 h3
 replace hmk := Lib.hid hmk
 replace hmf := Lib.hid hmf
 go_enter Tryz.func76, Tryz.ntmps76
 go_wp2_with (first | refine box_C rfl _ rfl c (.slice A n p) rfl ?_ | fail)
 intro y1 kC e1 s1
 clear s1
 have HB := e1
 clear e1
 go_wp2_with (first | refine box_M rfl _ rfl m (.slice Am nm pm) rfl ?_ | (first | refine lo_Cj kC ?_ | refine lo_cLj kC ?_ | refine lo_cJj kC ?_))
 intro y2 kM e2 s2
 clear s2
 replace HB := bt HB e2
 replace kC := kC.b e2
 clear e2
 generalize y1.heap.size = gkM at *
 have c_mk : y2.cell? ⟨gkM, 0, none⟩ = some (.int .i64 mk) := by rw [← hmk.out]; exact kM.cell 0
 have c_mf : y2.cell? ⟨gkM, 1, none⟩ = some (.int .i64 mf) := by rw [← hmf.out]; exact kM.cell 1
 by_cases k1 : mk = 1
 · skip
   have bk : (mk == 1) = true := by simp [k1]
   have hE := Lib.hid (h1.out k1)
   clear k1
   go_wp2_with (first | refine lo_Cj kC ?_ | refine lo_cLj kC ?_ | refine lo_cJj kC ?_ | refine lo_Mj kM ?_ | refine lo_mJj kM ?_)
   clear c_mk c_mf
   refine (letter_any c A n p 2 mf y2).mono ?_
   rintro e y3 ⟨rfl, hY⟩
   replace HB := bt HB hY
   replace kC := kC.b hY
   replace kM := kM.b hY
   clear hY
   go_wp2_with (first | refine kit.bs_M rfl _ rfl (letM c 2 mf) none 0 0 rfl ?_ | (first | refine lo_Cj kC ?_ | refine lo_cLj kC ?_ | refine lo_cJj kC ?_ | refine lo_Mj kM ?_ | refine lo_mJj kM ?_))
   intro y4 kB hX
   have hO := OutL.one (B := y3.heap.size) kB (OwnE.nil _ _) (Nat.le_refl _)
   have hb1 := HB.size
   have hb2 := hX.size
   replace HB := bt HB hX
   clear kB hX kC kM
   go_wp2_with fail
   go_ret
   rw [hE.out]
   exact ⟨_, 1, 1, y3.heap.size, rfl, hO, hb1, hb2, HB⟩
 have bk : (mk == 1) = false := by simp [k1]
 have e1 := Lib.hid k1
 clear k1
 by_cases k3 : mk = 3
 · skip
   have bk3 : (mk == 3) = true := by simp [k3]
   have hE := Lib.hid (h3.out e1.out (.inl k3))
   clear k3
   go_wp2_with (first | refine lo_Cj kC ?_ | refine lo_cLj kC ?_ | refine lo_cJj kC ?_ | refine lo_Mj kM ?_ | refine lo_mJj kM ?_)
   clear c_mk c_mf
   refine (letter_any c A n p 4 mf y2).mono ?_
   rintro e y3 ⟨rfl, hY⟩
   replace HB := bt HB hY
   replace kC := kC.b hY
   replace kM := kM.b hY
   clear hY
   go_wp2_with (first | refine kit.bs_M rfl _ rfl (letM c 4 mf) none 0 0 rfl ?_ | (first | refine lo_Cj kC ?_ | refine lo_cLj kC ?_ | refine lo_cJj kC ?_ | refine lo_Mj kM ?_ | refine lo_mJj kM ?_))
   intro y4 kB hX
   have hO := OutL.one (B := y3.heap.size) kB (OwnE.nil _ _) (Nat.le_refl _)
   have hb1 := HB.size
   have hb2 := hX.size
   replace HB := bt HB hX
   clear kB hX kC kM
   go_wp2_with fail
   go_ret
   rw [hE.out]
   exact ⟨_, 1, 1, y3.heap.size, rfl, hO, hb1, hb2, HB⟩
 have bk3 : (mk == 3) = false := by simp [k3]
 have e3 := Lib.hid k3
 clear k3
 by_cases k5 : mk = 5
 · skip
   have bk5 : (mk == 5) = true := by simp [k5]
   have hE := Lib.hid (h3.out e1.out (.inr k5))
   clear k5
   go_wp2_with (first | refine lo_Cj kC ?_ | refine lo_cLj kC ?_ | refine lo_cJj kC ?_ | refine lo_Mj kM ?_ | refine lo_mJj kM ?_)
   clear c_mk c_mf
   refine (letter_any c A n p 4 mf y2).mono ?_
   rintro e y3 ⟨rfl, hY⟩
   replace HB := bt HB hY
   replace kC := kC.b hY
   replace kM := kM.b hY
   clear hY
   go_wp2_with (first | refine kit.bs_M rfl _ rfl (letM c 4 mf) none 0 0 rfl ?_ | (first | refine lo_Cj kC ?_ | refine lo_cLj kC ?_ | refine lo_cJj kC ?_ | refine lo_Mj kM ?_ | refine lo_mJj kM ?_))
   intro y4 kB hX
   have hO := OutL.one (B := y3.heap.size) kB (OwnE.nil _ _) (Nat.le_refl _)
   have hb1 := HB.size
   have hb2 := hX.size
   replace HB := bt HB hX
   clear kB hX kC kM
   go_wp2_with fail
   go_ret
   rw [hE.out]
   exact ⟨_, 1, 1, y3.heap.size, rfl, hO, hb1, hb2, HB⟩
 have bk5 : (mk == 5) = false := by simp [k5]
 have hE := Lib.hid (h0.out e1.out e3.out k5)
 clear k5
 go_wp2_with fail
 go_ret
 rw [hE.out]
 exact ⟨none, 0, 0, y2.heap.size, rfl, OutL.nil _ _, HB.size, Nat.le_refl _, HB⟩
end Go.Proofs.YtegnfkbmlalkeaaGreat.cor
