/- The landed core: Step of messages that are ignored, or of a term gone by. Conditions: those that the theorems name. -/
import Derived.Deep.RegionHeld3
import Derived.Deep.Cut
import Derived.Lib.Hide
import Derived.Test.YtegnfkbmlalkeaaGreatSvJ2
import Derived.Test.YtegnfkbmlalkeaaGreatSvJ3
import Derived.Test.YtegnfkbmlalkeaaGreatSvCorR13
import Derived.Test.YtegnfkbmlalkeaaGreatSvCorN13
import Derived.Test.YtegnfkbmlalkeaaGreatSvCorM13
import Derived.Test.YtegnfkbmlalkeaaGreatSvKitLg
import Derived.Test.YtegnfkbmlalkeaaGreatSvJ0
namespace Go.Proofs.YtegnfkbmlalkeaaGreat.cor
open Go Go.RowKit Go.Proofs.YtegnfkbmlalkeaaGreat.kit Go.Proofs.YtegnfkbmlalkeaaGreat.nums Go.Proofs.YtegnfkbmlalkeaaGreat.cf Go.Proofs.YtegnfkbmlalkeaaGreat.lg Go.Proofs.YtegnfkbmlalkeaaGreat.cr Go.Proofs.YtegnfkbmlalkeaaGreat.se
set_option linter.unusedVariables false
theorem deaf_not {c : CoL} {m : MsL} (h : deafB c m = false) : (1 ≤ m.f ∧ m.f ≤ 9) ∧ (1 ≤ m.m ∧ m.m ≤ 1099511627776) ∧ (m.k = 1 ∨ m.k = 2 ∨ m.k = 3 ∨ m.k = 4 ∨ m.k = 5 ∨ m.k = 6) := by
 rw [deaf_form] at h
 simp only [Bool.or_eq_false_iff, Bool.not_eq_false', wiB, nodeB, Bool.and_eq_true, decide_eq_true_eq, decide_eq_false_iff_not] at h
 obtain ⟨_, _, h1, h2, h3, h4, _⟩ := h
 exact ⟨h1, h2, by omega⟩
theorem good_ent {c : CoL} {t : Int} (h : GoodK c) (ht : 0 ≤ t ∧ t ≤ 1099511627776) : GoodK (entC c t) := by
 refine ⟨h.id1, h.n, h.la, ⟨Int.le_refl _, show (0 : Int) ≤ 2 by decide⟩, ht, ⟨Int.le_refl _, show (0 : Int) ≤ 9 by decide⟩, ⟨Int.le_refl _, show (0 : Int) ≤ 9 by decide⟩, ?_, h.sf, h.nx, h.mt, h.vs, h.he⟩
 show 0 ≤ (if c.ro = 2 then 0 else c.wa) ∧ (if c.ro = 2 then 0 else c.wa) ≤ _
 have := h.wa
 split <;> omega
theorem bou_in (v : Int) : 0 ≤ bouF v ∧ bouF v ≤ 1099511627776 := by unfold bouF; omega
def goF (d : CoL) (m : MsL) : CoL × List MsL := if m.k = 1 then askF d m else if m.k = 2 then voteF d m else if m.k = 4 then ackF d m else if d.ro = 2 then (d, []) else toldF d m
theorem step_deaf {c : CoL} {m : MsL} (h : deafB c m = true) : stepF c m = (c, []) := by unfold stepF; rw [if_pos h]
theorem step_low {c : CoL} {m : MsL} (h : deafB c m = false) (hm : m.m < c.tm) : stepF c m = (c, staleF c m) := by
 unfold stepF; rw [if_neg (by rw [h]; decide)]
 dsimp only
 rw [if_pos hm]
 have e : termC c m = c := by unfold termC; rw [if_neg (by omega)]
 rw [e]
theorem step_up {c : CoL} {m : MsL} (h : deafB c m = false) (hm : c.tm < m.m) : stepF c m = goF (entC c m.m) (bouM m) := by
 unfold stepF; rw [if_neg (by rw [h]; decide)]
 dsimp only
 rw [if_neg (by omega)]
 have e : termC c m = entC c m.m := by unfold termC; rw [if_pos hm]; rfl
 rw [e]; rfl
theorem step_eq {c : CoL} {m : MsL} (h : deafB c m = false) (hm : m.m = c.tm) : stepF c m = goF c (bouM m) := by
 unfold stepF; rw [if_neg (by rw [h]; decide)]
 dsimp only
 rw [if_neg (by omega)]
 have e : termC c m = c := by unfold termC; rw [if_neg (by omega)]
 rw [e]; rfl
theorem go1 {d : CoL} {m : MsL} (h : m.k = 1) : goF d m = askF d m := by unfold goF; rw [if_pos h]
theorem go2 {d : CoL} {m : MsL} (h : m.k = 2) : goF d m = voteF d m := by unfold goF; rw [if_neg (by omega), if_pos h]
theorem go4 {d : CoL} {m : MsL} (h : m.k = 4) : goF d m = ackF d m := by unfold goF; rw [if_neg (by omega), if_neg (by omega), if_pos h]
theorem go3 {d : CoL} {m : MsL} (h : m.k = 3) : goF d m = taF d m := by unfold goF; rw [if_neg (by omega), if_neg (by omega), if_neg (by omega)]; rfl
theorem go5 {d : CoL} {m : MsL} (h : m.k = 5) : goF d m = tsF d m := by
 unfold goF tsF; rw [if_neg (by omega), if_neg (by omega), if_neg (by omega)]
 by_cases hr : d.ro = 2
 · rw [if_pos hr, if_pos hr]
 · rw [if_neg hr, if_neg hr]
   unfold toldF takeB
   rw [if_pos h]
   split <;> first | rfl | (dsimp only; rw [if_neg (by omega)])
theorem go6 {d : CoL} {m : MsL} (h : m.k = 6) : goF d m = (tlF d m, []) := by
 unfold goF tlF; rw [if_neg (by omega), if_neg (by omega), if_neg (by omega)]
 by_cases hr : d.ro = 2
 · rw [if_pos hr, if_pos hr]
 · rw [if_neg hr, if_neg hr]
   unfold toldF
   split <;> first | rfl | (dsimp only; rw [if_pos h])
set_option maxHeartbeats 8000000 in
set_option maxRecDepth 10000 in
theorem stepDeaf_any (c : CoL) (A : Option Addr) (n p : Nat) (m : MsL) (Am : Option Addr) (nm pm : Nat) (w : World) (B : Nat) (hR : RdE w B A n c.lg.es) (hB : B ≤ w.heap.size) (hp : n ≤ p) (Bm : Nat) (hm : RdE w Bm Am nm m.es) (hBm : Bm ≤ w.heap.size) (hpm : nm ≤ pm) (hk : GoodK c) (hok : ∀ x ∈ m.es, x.j.ok) (hj : m.j.ok) (hl : c.lg.es.length ≤ 16000) (hml : m.es.length ≤ 100000) (hd : deafB c m = true) : Calls Tryz.prog 27 #[crV c (.slice A n p), msV m (.slice Am nm pm)] w fun e w' => ∃ A' n' p' v B', e = .returned (.tuple #[crV (stepF c m).1 (.slice A' n' p'), v]) ∧ RdE w' B' A' n' (stepF c m).1.lg.es ∧ n' ≤ p' ∧ OldNew w.heap.size A n A' n' ∧ OutL w' B' v (stepF c m).2 ∧ w.heap.size ≤ B' ∧ B' ≤ w'.heap.size ∧ Below w.heap.size w w' := by
 have HK := Lib.hid hk
 have HOk := Lib.hid hok
 have HJ := Lib.hid hj
 have Rm := hm.more hBm
 have hmlen := Lib.hid hm.len
 have hl2 := Lib.hid hl
 have hml2 := Lib.hid hml
 have hn6 : n ≤ 1000000 := by rw [← hR.len]; omega
 replace hn6 := Lib.hid hn6
 clear hk hok hj hm hBm hl hml
 have hD := Lib.hid hd
 have hE := Lib.hid (step_deaf hd)
 clear hd
 have R0 := hR.more hB
 clear hR hB
 go_enter Tryz.func27, Tryz.ntmps27
 have NIR0kC := Lib.hid (NotIn.of_rd R0 (Nat.le_refl _))
 have NIRmkC := Lib.hid (NotIn.of_rd Rm (Nat.le_refl _))
 have LEkC : Hid (w.heap.size ≤ w.heap.size) := Nat.le_refl _
 go_wp2_with (first | go_skip | refine box_C rfl _ rfl c (.slice A n p) rfl ?_ | fail)
 intro y1 kC e1 s1
 clear s1
 have HB := e1
 replace R0 := R0.on e1 e1.size
 replace Rm := Rm.on e1 e1.size
 clear e1
 have LTkCkM := Lib.hid kC.lt
 go_wp2_with (first | go_skip | refine box_M rfl _ rfl m (.slice Am nm pm) rfl ?_ | (first | refine lo_Cj kC ?_ | refine lo_cLj kC ?_ | refine lo_cJj kC ?_))
 intro y2 kM e2 s2
 clear s2
 replace HB := bt HB e2
 replace kC := kC.b e2
 replace R0 := R0.on e2 e2.size
 replace Rm := Rm.on e2 e2.size
 clear e2
 generalize y1.heap.size = gkM at *
 have LTkCkO := Lib.hid kC.lt
 have LTkMkO := Lib.hid kM.lt
 have NIR0kO := Lib.hid (NotIn.of_rd R0 (Nat.le_refl _))
 have NIRmkO := Lib.hid (NotIn.of_rd Rm (Nat.le_refl _))
 have LEkO : Hid (w.heap.size ≤ y2.heap.size) := HB.size
 go_wp2_with (first | go_skip | refine al_C rfl rfl ?_ | (first | refine lo_Cj kC ?_ | refine lo_cLj kC ?_ | refine lo_cJj kC ?_ | refine lo_Mj kM ?_ | refine lo_mJj kM ?_))
 intro y3 kO e3 s3
 clear s3
 replace kO : Blk _ _ _ (crC zC (.slice none 0 0)) := kO
 replace HB := bt HB e3
 replace kC := kC.b e3
 replace kM := kM.b e3
 replace R0 := R0.on e3 e3.size
 replace Rm := Rm.on e3 e3.size
 clear e3
 generalize y2.heap.size = gkO at *
 go_wp2_with (first | go_skip | refine lo_Cj kC ?_ | refine lo_cLj kC ?_ | refine lo_cJj kC ?_ | refine lo_Mj kM ?_ | refine lo_mJj kM ?_ | refine lo_Cj kO ?_ | refine lo_cLj kO ?_ | refine lo_cJj kO ?_)
 refine (own2_any c A n p y3 y3.heap.size R0 (Nat.le_refl _) hp hn6.out).mono ?_
 rintro e y4 ⟨A1, n1, p1, rfl, R1, hp1, ON1, hY⟩
 have NIR1kC := Lib.hid (NIR0kC.out.next ON1 kC.lt)
 have NIR1kO := Lib.hid (NIR0kO.out.next ON1 kO.lt)
 have ON12 := Lib.hid ((OldNew.refl w.heap.size A n).trans ON1 HB.size)
 clear ON1
 replace HB := bt HB hY
 replace kC := kC.b hY
 replace kM := kM.b hY
 replace kO := kO.b hY
 replace R0 := R0.on hY hY.size
 replace Rm := Rm.on hY hY.size
 clear hY
 go_wp2_with (first | go_skip | refine st_C rfl _ _ rfl c A1 n1 p1 rfl rfl _ kC rfl ?_ | (first | refine lo_Cj kC ?_ | refine lo_cLj kC ?_ | refine lo_cJj kC ?_ | refine lo_Mj kM ?_ | refine lo_mJj kM ?_ | refine lo_Cj kO ?_ | refine lo_cLj kO ?_ | refine lo_cJj kO ?_))
 intro y5 kC2 pO
 replace kM := kM.put pO (Nat.ne_of_gt LTkCkM.out)
 replace kO := kO.put pO (Nat.ne_of_gt LTkCkO.out)
 replace R0 := R0.putS pO NIR0kC.out
 replace Rm := Rm.putS pO NIRmkC.out
 replace R1 := R1.putS pO NIR1kC.out
 replace HB := pO.below _ _ HB LEkC.out
 clear kC
 have kC := kC2
 clear kC2 pO
 go_wp2_with (first | go_skip | refine lo_Cj kC ?_ | refine lo_cLj kC ?_ | refine lo_cJj kC ?_ | refine lo_Mj kM ?_ | refine lo_mJj kM ?_ | refine lo_Cj kO ?_ | refine lo_cLj kO ?_ | refine lo_cJj kO ?_)
 have CC := ignores_any c A1 n1 p1 m Am nm pm y5
 rw [hD.out] at CC
 refine (CC).mono ?_
 rintro e y6 ⟨rfl, hY⟩
 replace HB := bt HB hY
 replace kC := kC.b hY
 replace kM := kM.b hY
 replace kO := kO.b hY
 replace R0 := R0.on hY hY.size
 replace Rm := Rm.on hY hY.size
 replace R1 := R1.on hY hY.size
 clear hY
 clear CC
 have hO := OutL.nil y6 y6.heap.size
 have hB7 := Lib.hid (HB.size)
 have RB := R1
 have RBz := Lib.hid (Nat.le_refl y6.heap.size)
 have LBhOkC := Lib.hid kC.lt
 have LBhOkM := Lib.hid kM.lt
 have LBhOkO := Lib.hid kO.lt
 have NIRBkO := NIR1kO
 obtain ⟨B9, hB9⟩ : ∃ q, y6.heap.size = q := ⟨_, rfl⟩
 rw [hB9] at hO hB7 RB RBz LBhOkC LBhOkM LBhOkO
 replace RBz := Lib.hid (show B9 ≤ y6.heap.size by rw [hB9]; exact Nat.le_refl _)
 clear hB9
 go_wp2_with (first | go_skip | refine st_C rfl _ _ rfl c A1 n1 p1 rfl rfl _ kO rfl ?_ | (first | refine lo_Cj kC ?_ | refine lo_cLj kC ?_ | refine lo_cJj kC ?_ | refine lo_Mj kM ?_ | refine lo_mJj kM ?_ | refine lo_Cj kO ?_ | refine lo_cLj kO ?_ | refine lo_cJj kO ?_))
 intro y7 kO2 pO
 replace kC := kC.put pO (Nat.ne_of_lt LTkCkO.out)
 replace kM := kM.put pO (Nat.ne_of_lt LTkMkO.out)
 replace R0 := R0.putS pO NIR0kO.out
 replace Rm := Rm.putS pO NIRmkO.out
 replace R1 := R1.putS pO NIR1kO.out
 replace hO := hO.put pO LBhOkO.out
 replace RB := RB.putN pO NIRBkO.out
 replace RBz := Lib.hid (Nat.le_trans RBz.out (Nat.le_of_eq pO.size.symm))
 replace HB := pO.below _ _ HB LEkO.out
 clear kO
 have kO := kO2
 clear kO2 pO
 go_wp2_with (first | go_skip | refine lo_Cj kC ?_ | refine lo_cLj kC ?_ | refine lo_cJj kC ?_ | refine lo_Mj kM ?_ | refine lo_mJj kM ?_ | refine lo_Cj kO ?_ | refine lo_cLj kO ?_ | refine lo_cJj kO ?_)
 (try simp only [Exit.inBlock, Exit.then])
 refine bodyPost_ret (res2 Tryz.results27 rfl rfl (aggC _) (sizeC _) (ldCv kO)) rfl ?_
 rw [hE.out]
 first | exact ⟨A1, n1, p1, _, B9, rfl, RB, hp1, ON12.out, hO, hB7.out, RBz.out, HB⟩ | exact ⟨A1, n1, p1, _, rfl, B9, RB, hp1, ON12.out, hO, hB7.out, RBz.out, HB⟩
set_option maxHeartbeats 8000000 in
set_option maxRecDepth 10000 in
theorem stepLow_any (c : CoL) (A : Option Addr) (n p : Nat) (m : MsL) (Am : Option Addr) (nm pm : Nat) (w : World) (B : Nat) (hR : RdE w B A n c.lg.es) (hB : B ≤ w.heap.size) (hp : n ≤ p) (Bm : Nat) (hm : RdE w Bm Am nm m.es) (hBm : Bm ≤ w.heap.size) (hpm : nm ≤ pm) (hk : GoodK c) (hok : ∀ x ∈ m.es, x.j.ok) (hj : m.j.ok) (hl : c.lg.es.length ≤ 16000) (hml : m.es.length ≤ 100000) (hd : deafB c m = false) (hlow : m.m < c.tm) : Calls Tryz.prog 27 #[crV c (.slice A n p), msV m (.slice Am nm pm)] w fun e w' => ∃ A' n' p' v B', e = .returned (.tuple #[crV (stepF c m).1 (.slice A' n' p'), v]) ∧ RdE w' B' A' n' (stepF c m).1.lg.es ∧ n' ≤ p' ∧ OldNew w.heap.size A n A' n' ∧ OutL w' B' v (stepF c m).2 ∧ w.heap.size ≤ B' ∧ B' ≤ w'.heap.size ∧ Below w.heap.size w w' := by
 have HK := Lib.hid hk
 have HOk := Lib.hid hok
 have HJ := Lib.hid hj
 have Rm := hm.more hBm
 have hmlen := Lib.hid hm.len
 have hl2 := Lib.hid hl
 have hml2 := Lib.hid hml
 have hn6 : n ≤ 1000000 := by rw [← hR.len]; omega
 replace hn6 := Lib.hid hn6
 clear hk hok hj hm hBm hl hml
 have hD := Lib.hid hd
 have hE := Lib.hid (step_low hd hlow)
 obtain ⟨mm, hmm⟩ : ∃ q, m.m = q := ⟨_, rfl⟩
 obtain ⟨tm, htm⟩ : ∃ q, c.tm = q := ⟨_, rfl⟩
 rw [hmm, htm] at hlow
 replace hmm := Lib.hid hmm
 replace htm := Lib.hid htm
 clear hd
 have hng : ¬ mm > tm := by omega
 have hlw := Lib.hid hlow
 have hnh := Lib.hid hng
 clear hlow hng
 have R0 := hR.more hB
 clear hR hB
 go_enter Tryz.func27, Tryz.ntmps27
 have NIR0kC := Lib.hid (NotIn.of_rd R0 (Nat.le_refl _))
 have NIRmkC := Lib.hid (NotIn.of_rd Rm (Nat.le_refl _))
 have LEkC : Hid (w.heap.size ≤ w.heap.size) := Nat.le_refl _
 go_wp2_with (first | go_skip | refine box_C rfl _ rfl c (.slice A n p) rfl ?_ | fail)
 intro y1 kC e1 s1
 clear s1
 have HB := e1
 replace R0 := R0.on e1 e1.size
 replace Rm := Rm.on e1 e1.size
 clear e1
 have LTkCkM := Lib.hid kC.lt
 go_wp2_with (first | go_skip | refine box_M rfl _ rfl m (.slice Am nm pm) rfl ?_ | (first | refine lo_Cj kC ?_ | refine lo_cLj kC ?_ | refine lo_cJj kC ?_))
 intro y2 kM e2 s2
 clear s2
 replace HB := bt HB e2
 replace kC := kC.b e2
 replace R0 := R0.on e2 e2.size
 replace Rm := Rm.on e2 e2.size
 clear e2
 generalize y1.heap.size = gkM at *
 have LTkCkO := Lib.hid kC.lt
 have LTkMkO := Lib.hid kM.lt
 have NIR0kO := Lib.hid (NotIn.of_rd R0 (Nat.le_refl _))
 have NIRmkO := Lib.hid (NotIn.of_rd Rm (Nat.le_refl _))
 have LEkO : Hid (w.heap.size ≤ y2.heap.size) := HB.size
 go_wp2_with (first | go_skip | refine al_C rfl rfl ?_ | (first | refine lo_Cj kC ?_ | refine lo_cLj kC ?_ | refine lo_cJj kC ?_ | refine lo_Mj kM ?_ | refine lo_mJj kM ?_))
 intro y3 kO e3 s3
 clear s3
 replace kO : Blk _ _ _ (crC zC (.slice none 0 0)) := kO
 replace HB := bt HB e3
 replace kC := kC.b e3
 replace kM := kM.b e3
 replace R0 := R0.on e3 e3.size
 replace Rm := Rm.on e3 e3.size
 clear e3
 generalize y2.heap.size = gkO at *
 go_wp2_with (first | go_skip | refine lo_Cj kC ?_ | refine lo_cLj kC ?_ | refine lo_cJj kC ?_ | refine lo_Mj kM ?_ | refine lo_mJj kM ?_ | refine lo_Cj kO ?_ | refine lo_cLj kO ?_ | refine lo_cJj kO ?_)
 refine (own2_any c A n p y3 y3.heap.size R0 (Nat.le_refl _) hp hn6.out).mono ?_
 rintro e y4 ⟨A1, n1, p1, rfl, R1, hp1, ON1, hY⟩
 have NIR1kC := Lib.hid (NIR0kC.out.next ON1 kC.lt)
 have NIR1kO := Lib.hid (NIR0kO.out.next ON1 kO.lt)
 have ON12 := Lib.hid ((OldNew.refl w.heap.size A n).trans ON1 HB.size)
 clear ON1
 replace HB := bt HB hY
 replace kC := kC.b hY
 replace kM := kM.b hY
 replace kO := kO.b hY
 replace R0 := R0.on hY hY.size
 replace Rm := Rm.on hY hY.size
 clear hY
 go_wp2_with (first | go_skip | refine st_C rfl _ _ rfl c A1 n1 p1 rfl rfl _ kC rfl ?_ | (first | refine lo_Cj kC ?_ | refine lo_cLj kC ?_ | refine lo_cJj kC ?_ | refine lo_Mj kM ?_ | refine lo_mJj kM ?_ | refine lo_Cj kO ?_ | refine lo_cLj kO ?_ | refine lo_cJj kO ?_))
 intro y5 kC2 pO
 replace kM := kM.put pO (Nat.ne_of_gt LTkCkM.out)
 replace kO := kO.put pO (Nat.ne_of_gt LTkCkO.out)
 replace R0 := R0.putS pO NIR0kC.out
 replace Rm := Rm.putS pO NIRmkC.out
 replace R1 := R1.putS pO NIR1kC.out
 replace HB := pO.below _ _ HB LEkC.out
 clear kC
 have kC := kC2
 clear kC2 pO
 go_wp2_with (first | go_skip | refine lo_Cj kC ?_ | refine lo_cLj kC ?_ | refine lo_cJj kC ?_ | refine lo_Mj kM ?_ | refine lo_mJj kM ?_ | refine lo_Cj kO ?_ | refine lo_cLj kO ?_ | refine lo_cJj kO ?_)
 have CC := ignores_any c A1 n1 p1 m Am nm pm y5
 rw [hD.out] at CC
 refine (CC).mono ?_
 rintro e y6 ⟨rfl, hY⟩
 replace HB := bt HB hY
 replace kC := kC.b hY
 replace kM := kM.b hY
 replace kO := kO.b hY
 replace R0 := R0.on hY hY.size
 replace Rm := Rm.on hY hY.size
 replace R1 := R1.on hY hY.size
 clear hY
 clear CC
 have c_mm : y6.cell? ⟨gkM, 3, none⟩ = some (.int .i64 mm) := by rw [← hmm.out]; exact kM.cell 3
 have c_tm : y6.cell? ⟨w.heap.size, 2, none⟩ = some (.int .i64 tm) := by rw [← htm.out]; exact kC.cell 2
 have h1 : ¬ mm > tm := by have := hlw.out; omega
 have h2 : mm < tm := hlw.out
 go_upto_region 7 with (go_skip)
 clear c_mm c_tm h1 h2
 refine wp_region_held_drew (S := fun wq => Blk 33 wq w.heap.size (crC c (.slice A1 n1 p1)) ∧ Blk 49 wq gkM (msC m (.slice Am nm pm))) (by kernel_rfl) ?s_stp7 (fun hHeld => ?_)
 case s_stp7 => exact ⟨kC, kM⟩
 have hD := (Below.refl y6.heap.size y6).drew
 replace HB := bt HB hD
 replace kC := kC.b hD
 replace kM := kM.b hD
 replace kO := kO.b hD
 replace R0 := R0.on hD hD.size
 replace Rm := Rm.on hD hD.size
 replace R1 := R1.on hD hD.size
 clear hD
 generalize y6.drew = y7 at *
 refine tj 0 _ ?_ (hy := fun wq hSw => rld_C rfl rfl (And.left hSw))
 try simp only [Act.put, ka, kb, kc]
 refine tj 1 _ ?_ (hy := fun wq hSw => rld_C rfl rfl (And.left hSw))
 try simp only [Act.put, ka, kb, kc]
 refine tj 2 _ ?_ (hy := fun wq hSw => rld_M rfl rfl (And.right hSw))
 try simp only [Act.put, ka, kb, kc]
 refine rr [3] ?_
 refine rc (fun KQ hKQ => ?_) AllReadyH.nil
 go_simp
 refine (decline_any c A1 n1 p1 m Am nm pm y7).mono ?_
 rintro e y8 ⟨A9, n9, c9, B9, rfl, hO, hB9, hB8, hY⟩
 have LBhOkO := Lib.hid (Nat.lt_of_lt_of_le kO.lt hB9)
 have NIRBkO := NIR1kO
 have hB7 := Lib.hid (Nat.le_trans HB.size hB9)
 have RB : RdE y8 B9 _ _ _ := (R1.below hY).more hB9
 have RBz := Lib.hid hB8
 clear hB8 hB9
 replace HB := bt HB hY
 replace kC := kC.b hY
 replace kM := kM.b hY
 replace kO := kO.b hY
 replace R0 := R0.on hY hY.size
 replace Rm := Rm.on hY hY.size
 replace R1 := R1.on hY hY.size
 clear hY
 go_wp2_with fail
 refine hKQ.out _ _ (⟨kC, kM⟩) (fun _ => ?_)
 clear hKQ KQ
 try simp only [Act.put, ka, kb, kc]
 refine rr [4] ?_
 refine rc (fun KQ hKQ => ?_) AllReadyH.nil
 refine step_stAt rfl 33 _ _ rfl (cells := (crC c (.slice A1 n1 p1)).toArray) (crC c (.slice A1 n1 p1)) rfl rfl kO sizeCv (by show 0 + 45 ≤ 45; omega) (cr_one _) rfl ?_
 intro y9 kO2 pO
 replace kC := kC.put pO (Nat.ne_of_lt LTkCkO.out)
 replace kM := kM.put pO (Nat.ne_of_lt LTkMkO.out)
 replace R0 := R0.putS pO NIR0kO.out
 replace Rm := Rm.putS pO NIRmkO.out
 replace R1 := R1.putS pO NIR1kO.out
 replace hO := hO.put pO LBhOkO.out
 replace RB := RB.putN pO NIRBkO.out
 replace RBz := Lib.hid (Nat.le_trans RBz.out (Nat.le_of_eq pO.size.symm))
 replace HB := pO.below _ _ HB LEkO.out
 clear kO
 have kO := kO2
 clear kO2 pO
 refine hKQ.out _ _ (⟨kC, kM⟩) (fun _ => ?_)
 clear hKQ KQ
 try simp only [Act.put]
 refine tj 5 _ ?_
 try simp only [Act.put, ka, kb, kc]
 refine wpAnyH_done (by kernel_rfl) ?_ _
 go_wp2_with (first | go_skip | refine lo_Cj kC ?_ | refine lo_cLj kC ?_ | refine lo_cJj kC ?_ | refine lo_Mj kM ?_ | refine lo_mJj kM ?_ | refine lo_Cj kO ?_ | refine lo_cLj kO ?_ | refine lo_cJj kO ?_)
 (try simp only [Exit.inBlock, Exit.then])
 refine bodyPost_ret (res2 Tryz.results27 rfl rfl (aggC _) (sizeC _) (ldCv kO)) rfl ?_
 rw [hE.out]
 first | exact ⟨A1, n1, p1, _, B9, rfl, RB, hp1, ON12.out, hO, hB7.out, RBz.out, HB⟩ | exact ⟨A1, n1, p1, _, rfl, B9, RB, hp1, ON12.out, hO, hB7.out, RBz.out, HB⟩
end Go.Proofs.YtegnfkbmlalkeaaGreat.cor
