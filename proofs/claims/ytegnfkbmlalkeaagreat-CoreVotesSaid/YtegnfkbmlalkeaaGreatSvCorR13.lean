/- The landed core: restored, takeSnap. Conditions: those that the theorems name. -/
import Derived.Deep.RegionHeld3
import Derived.Deep.Cut
import Derived.Lib.Hide
import Derived.Test.YtegnfkbmlalkeaaGreatSvJ2
import Derived.Test.YtegnfkbmlalkeaaGreatSvCorA13
import Derived.Test.YtegnfkbmlalkeaaGreatSvEntL
import Derived.Test.YtegnfkbmlalkeaaGreatSvConfJ
import Derived.Test.YtegnfkbmlalkeaaGreatSvKitLg
import Derived.Test.YtegnfkbmlalkeaaGreatSvJ0
namespace Go.Proofs.YtegnfkbmlalkeaaGreat.cor
open Go Go.RowKit Go.Proofs.YtegnfkbmlalkeaaGreat.kit Go.Proofs.YtegnfkbmlalkeaaGreat.nums Go.Proofs.YtegnfkbmlalkeaaGreat.cf Go.Proofs.YtegnfkbmlalkeaaGreat.lg Go.Proofs.YtegnfkbmlalkeaaGreat.cr Go.Proofs.YtegnfkbmlalkeaaGreat.se
set_option linter.unusedVariables false
def rsF (l : LgL) (m : MsL) : LgL := if (termF l m.i).2 = true ∧ (termF l m.i).1 = m.lt then { (compactF l m.i).1 with j := m.j } else ⟨m.i, m.lt, m.j, []⟩
theorem rs_hit {l : LgL} {m : MsL} (h : (termF l m.i).2 = true ∧ (termF l m.i).1 = m.lt) : rsF l m = { (compactF l m.i).1 with j := m.j } := if_pos h
theorem rs_new {l : LgL} {m : MsL} (h : ¬ ((termF l m.i).2 = true ∧ (termF l m.i).1 = m.lt)) : rsF l m = ⟨m.i, m.lt, m.j, []⟩ := if_neg h
theorem bd_l2 {w : World} {ops : Array Oper} {rest : List Oper} {o : Oper} {a : Act} {Q : Exit → Act → World → Prop} {q0 q1 : Operand} (b t : Int) (ho : o.op = .build 30 #[(0, q0), (1, q1)]) (hw : Region.wanted o (yielded ops a.tmps) = true) (h0 : a.eval q0 = .int .i64 b) (h1 : a.eval q1 = .int .i64 t)
   (h : wpList Tryz.prog ops Q rest (a.put o.dst (lgV ⟨b, t, zeroJ, []⟩ (.slice none 0 0))) w) : wpList Tryz.prog ops Q (o :: rest) a w := by
 refine wpList_val hw ?_ h
 have hr : (Instr.build 30 #[(0, .int .i64 b), (1, .int .i64 t)]).run Tryz.prog w = .ok (lgV ⟨b, t, zeroJ, []⟩ (.slice none 0 0)) w := by kernel_rfl
 unfold execOp
 simp [ho, h0, h1, hr]
set_option maxHeartbeats 4000000 in
set_option maxRecDepth 10000 in
theorem restored_any (L : LgL) (A : Option Addr) (n p : Nat) (m : MsL) (Am : Option Addr) (nm pm : Nat) (w : World) (B : Nat) (hR : RdE w B A n L.es) (hB : B ≤ w.heap.size) (hp : n ≤ p) (hf : Fit L) : Calls Tryz.prog 133 #[lgV L (.slice A n p), msV m (.slice Am nm pm)] w fun e w' => ∃ A' n' p', e = .returned (lgV (rsF L m) (.slice A' n' p')) ∧ OwnE w' w.heap.size (.slice A' n' p') (rsF L m).es ∧ Below w.heap.size w w' := by
 have R0 := hR.more hB
 have HF := Lib.hid hf
 clear hR hB hf
 have hLh := Lib.hid (fun h => rs_hit (l := L) (m := m) h)
 have hLn := Lib.hid (fun h => rs_new (l := L) (m := m) h)
 obtain ⟨mi, hmi⟩ : ∃ q, m.i = q := ⟨_, rfl⟩
 obtain ⟨ml, hml⟩ : ∃ q, m.lt = q := ⟨_, rfl⟩
 rw [hmi, hml] at hLh hLn
 replace hmi := Lib.hid hmi
 replace hml := Lib.hid hml
 go_enter Tryz.func133, Tryz.ntmps133
 go_wp2_with (first | go_skip | refine box_L rfl _ rfl L (.slice A n p) rfl ?_ | fail)
 intro y1 kL e1 s1
 clear s1
 have HB := e1
 replace R0 := R0.on e1 e1.size
 clear e1
 go_wp2_with (first | go_skip | refine box_M rfl _ rfl m (.slice Am nm pm) rfl ?_ | (first | refine lo_Lj kL ?_ | refine lo_lJj kL ?_))
 intro y2 kM e2 s2
 clear s2
 replace HB := bt HB e2
 replace kL := kL.b e2
 replace R0 := R0.on e2 e2.size
 clear e2
 generalize y1.heap.size = gkM at *
 have LTkLkO := Lib.hid kL.lt
 have LTkMkO := Lib.hid kM.lt
 have NIR0kO := Lib.hid (NotIn.of_rd R0 (Nat.le_refl _))
 have LEkO : Hid (w.heap.size ≤ y2.heap.size) := HB.size
 go_wp2_with (first | go_skip | refine al_L rfl rfl ?_ | (first | refine lo_Lj kL ?_ | refine lo_lJj kL ?_ | refine lo_Mj kM ?_ | refine lo_mJj kM ?_))
 intro y3 kO e3 s3
 clear s3
 replace kO : Blk _ _ _ (lgC zL (.slice none 0 0)) := kO
 replace HB := bt HB e3
 replace kL := kL.b e3
 replace kM := kM.b e3
 replace R0 := R0.on e3 e3.size
 clear e3
 generalize y2.heap.size = gkO at *
 have ci : y3.cell? ⟨gkM, 4, none⟩ = some (.int .i64 mi) := by rw [← hmi.out]; exact kM.cell 4
 have ct : y3.cell? ⟨gkM, 5, none⟩ = some (.int .i64 ml) := by rw [← hml.out]; exact kM.cell 5
 have LTkLkR := Lib.hid kL.lt
 have LTkMkR := Lib.hid kM.lt
 have LTkOkR := Lib.hid kO.lt
 have NIR0kR := Lib.hid (NotIn.of_rd R0 (Nat.le_refl _))
 have LEkR : Hid (w.heap.size ≤ y3.heap.size) := HB.size
 go_wp2_with (first | go_skip | refine al_L rfl rfl ?_ | (first | refine lo_Lj kL ?_ | refine lo_lJj kL ?_ | refine lo_Mj kM ?_ | refine lo_mJj kM ?_ | refine lo_Lj kO ?_ | refine lo_lJj kO ?_ | refine bd_l2 mi ml rfl rfl rfl rfl ?_))
 intro y4 kR e4 s4
 clear s4
 replace kR : Blk _ _ _ (lgC zL (.slice none 0 0)) := kR
 replace HB := bt HB e4
 replace kL := kL.b e4
 replace kM := kM.b e4
 replace kO := kO.b e4
 replace R0 := R0.on e4 e4.size
 clear e4
 generalize y3.heap.size = gkR at *
 go_wp2_with (first | go_skip | refine st_L rfl _ _ rfl ⟨mi, ml, zeroJ, []⟩ none 0 0 rfl rfl _ kR rfl ?_ | (first | refine lo_Lj kL ?_ | refine lo_lJj kL ?_ | refine lo_Mj kM ?_ | refine lo_mJj kM ?_ | refine lo_Lj kO ?_ | refine lo_lJj kO ?_ | refine lo_Lj kR ?_ | refine lo_lJj kR ?_ | refine bd_l2 mi ml rfl rfl rfl rfl ?_))
 intro y5 kR2 pO
 replace kL := kL.put pO (Nat.ne_of_lt LTkLkR.out)
 replace kM := kM.put pO (Nat.ne_of_lt LTkMkR.out)
 replace kO := kO.put pO (Nat.ne_of_lt LTkOkR.out)
 replace R0 := R0.putS pO NIR0kR.out
 replace HB := pO.below _ _ HB LEkR.out
 clear kR
 have kR := kR2
 clear kR2 pO
 clear ci ct
 have ci : y5.cell? ⟨gkM, 4, none⟩ = some (.int .i64 mi) := by rw [← hmi.out]; exact kM.cell 4
 go_wp2_with (first | go_skip | refine lo_Lj kL ?_ | refine lo_lJj kL ?_ | refine lo_Mj kM ?_ | refine lo_mJj kM ?_ | refine lo_Lj kO ?_ | refine lo_lJj kO ?_ | refine lo_Lj kR ?_ | refine lo_lJj kR ?_)
 obtain ⟨tv, htv⟩ : ∃ q, (termF L mi).1 = q := ⟨_, rfl⟩
 obtain ⟨tb, htb⟩ : ∃ q, (termF L mi).2 = q := ⟨_, rfl⟩
 rw [htv, htb] at hLh hLn
 have CC := enti.term_any L A n p mi y5 y5.heap.size R0 (Nat.le_refl _) hp HF.out
 rw [htv, htb] at CC
 clear htv htb
 refine (CC).mono ?_
 rintro e y6 ⟨rfl, hY⟩
 replace HB := bt HB hY
 replace kL := kL.b hY
 replace kM := kM.b hY
 replace kO := kO.b hY
 replace kR := kR.b hY
 replace R0 := R0.on hY hY.size
 clear hY
 clear CC ci
 have ct : y6.cell? ⟨gkM, 5, none⟩ = some (.int .i64 ml) := by rw [← hml.out]; exact kM.cell 5
 by_cases hhit : tb = true ∧ tv = ml
 · skip
   have hE := Lib.hid (hLh.out hhit)
   obtain ⟨rfl, q2⟩ := hhit
   have bq : (tv == ml) = true := by simp [q2]
   replace q2 := Lib.hid q2
   clear hLh hLn
   have ci : y6.cell? ⟨gkM, 4, none⟩ = some (.int .i64 mi) := by rw [← hmi.out]; exact kM.cell 4
   go_wp2_with (first | go_skip | refine lo_Lj kL ?_ | refine lo_lJj kL ?_ | refine lo_Mj kM ?_ | refine lo_mJj kM ?_ | refine lo_Lj kO ?_ | refine lo_lJj kO ?_ | refine lo_Lj kR ?_ | refine lo_lJj kR ?_)
   clear ci ct
   refine (enti.compact_any L A n p mi y6 y6.heap.size R0 (Nat.le_refl _) hp HF.out).mono ?_
   rintro e y7 ⟨A5, n5, p5, rfl, hn5, hO, hY⟩
   replace hn5 := Lib.hid hn5
   have hb5 := Lib.hid HB.size
   have gl5 := Lib.hid kR.lt
   have gl6 := Lib.hid kO.lt
   obtain ⟨c2, hc2⟩ : ∃ q, (compactF L mi).1 = q := ⟨_, rfl⟩
   rw [hc2] at hE hO ⊢
   obtain ⟨e2, he2⟩ : ∃ q, (compactF L mi).2 = q := ⟨_, rfl⟩
   rw [he2]
   clear hc2 he2
   replace HB := bt HB hY
   replace kL := kL.b hY
   replace kM := kM.b hY
   replace kO := kO.b hY
   replace kR := kR.b hY
   replace R0 := R0.on hY hY.size
   clear hY
   go_wp2_with (first | go_skip | refine st_L rfl _ _ rfl c2 A5 n5 p5 rfl rfl _ kR rfl ?_ | (first | refine lo_Lj kL ?_ | refine lo_lJj kL ?_ | refine lo_Mj kM ?_ | refine lo_mJj kM ?_ | refine lo_Lj kO ?_ | refine lo_lJj kO ?_ | refine lo_Lj kR ?_ | refine lo_lJj kR ?_))
   intro y8 kR2 pO
   replace kL := kL.put pO (Nat.ne_of_lt LTkLkR.out)
   replace kM := kM.put pO (Nat.ne_of_lt LTkMkR.out)
   replace kO := kO.put pO (Nat.ne_of_lt LTkOkR.out)
   replace R0 := R0.putS pO NIR0kR.out
   replace hO := hO.put pO gl5.out
   replace HB := pO.below _ _ HB LEkR.out
   clear kR
   have kR := kR2
   clear kR2 pO
   go_wp2_with (first | go_skip | refine wpList_stAt rfl 27 _ _ rfl (cells := (jC m.j).toArray) (lgC (rsF L m) (.slice A5 n5 p5)) rfl rfl kR sizeJv (by show 2 + 11 ≤ 14; omega) (j_one _) (by rw [hE.out]; rfl) ?_ | (first | refine lo_Lj kL ?_ | refine lo_lJj kL ?_ | refine lo_Mj kM ?_ | refine lo_mJj kM ?_ | refine lo_Lj kO ?_ | refine lo_lJj kO ?_ | refine lo_Lj kR ?_ | refine lo_lJj kR ?_))
   intro y9 kR2 pO
   replace hO := hO.put pO gl5.out
   replace kL := kL.put pO (Nat.ne_of_lt LTkLkR.out)
   replace kM := kM.put pO (Nat.ne_of_lt LTkMkR.out)
   replace kO := kO.put pO (Nat.ne_of_lt LTkOkR.out)
   replace R0 := R0.putS pO NIR0kR.out
   replace HB := pO.below _ _ HB LEkR.out
   clear kR
   have kR := kR2
   clear kR2 pO
   go_wp2_with (first | go_skip | refine st_L rfl _ _ rfl (rsF L m) A5 n5 p5 rfl rfl _ kO rfl ?_ | (first | refine lo_Lj kL ?_ | refine lo_lJj kL ?_ | refine lo_Mj kM ?_ | refine lo_mJj kM ?_ | refine lo_Lj kO ?_ | refine lo_lJj kO ?_ | refine lo_Lj kR ?_ | refine lo_lJj kR ?_))
   intro y10 kO2 pO
   replace kL := kL.put pO (Nat.ne_of_lt LTkLkO.out)
   replace kM := kM.put pO (Nat.ne_of_lt LTkMkO.out)
   replace kR := kR.put pO (Nat.ne_of_gt LTkOkR.out)
   replace R0 := R0.putS pO NIR0kO.out
   replace hO := hO.put pO gl6.out
   replace HB := pO.below _ _ HB LEkO.out
   clear kO
   have kO := kO2
   clear kO2 pO
   go_wp2_with (first | go_skip | refine lo_Lj kL ?_ | refine lo_lJj kL ?_ | refine lo_Mj kM ?_ | refine lo_mJj kM ?_ | refine lo_Lj kO ?_ | refine lo_lJj kO ?_ | refine lo_Lj kR ?_ | refine lo_lJj kR ?_)
   (try simp only [Exit.inBlock, Exit.then])
   refine bodyPost_ret (res1 Tryz.results133 rfl (aggL _) (sizeL _) (ldL kO)) rfl ?_
   exact ⟨A5, n5, p5, rfl, (by rw [hE.out]; exact hO.more hb5.out), HB⟩
 have hE := Lib.hid (hLn.out hhit)
 clear hLn hLh
 rcases tb with _ | _
 · skip
   clear hhit
   go_upto_region 5 with (go_skip)
   clear ct
   go_wp2_with (first | go_skip | refine wpList_stAt rfl 27 _ _ rfl (cells := (jC m.j).toArray) (lgC (rsF L m) (.slice none 0 0)) rfl rfl kR sizeJv (by show 2 + 11 ≤ 14; omega) (j_one _) (by rw [hE.out]; rfl) ?_ | (first | refine lo_Lj kL ?_ | refine lo_lJj kL ?_ | refine lo_Mj kM ?_ | refine lo_mJj kM ?_ | refine lo_Lj kO ?_ | refine lo_lJj kO ?_ | refine lo_Lj kR ?_ | refine lo_lJj kR ?_))
   intro y7 kR2 pO
   replace kL := kL.put pO (Nat.ne_of_lt LTkLkR.out)
   replace kM := kM.put pO (Nat.ne_of_lt LTkMkR.out)
   replace kO := kO.put pO (Nat.ne_of_lt LTkOkR.out)
   replace R0 := R0.putS pO NIR0kR.out
   replace HB := pO.below _ _ HB LEkR.out
   clear kR
   have kR := kR2
   clear kR2 pO
   go_wp2_with (first | go_skip | refine st_L rfl _ _ rfl (rsF L m) none 0 0 rfl rfl _ kO rfl ?_ | (first | refine lo_Lj kL ?_ | refine lo_lJj kL ?_ | refine lo_Mj kM ?_ | refine lo_mJj kM ?_ | refine lo_Lj kO ?_ | refine lo_lJj kO ?_ | refine lo_Lj kR ?_ | refine lo_lJj kR ?_))
   intro y8 kO2 pO
   replace kL := kL.put pO (Nat.ne_of_lt LTkLkO.out)
   replace kM := kM.put pO (Nat.ne_of_lt LTkMkO.out)
   replace kR := kR.put pO (Nat.ne_of_gt LTkOkR.out)
   replace R0 := R0.putS pO NIR0kO.out
   replace HB := pO.below _ _ HB LEkO.out
   clear kO
   have kO := kO2
   clear kO2 pO
   go_wp2_with (first | go_skip | refine lo_Lj kL ?_ | refine lo_lJj kL ?_ | refine lo_Mj kM ?_ | refine lo_mJj kM ?_ | refine lo_Lj kO ?_ | refine lo_lJj kO ?_ | refine lo_Lj kR ?_ | refine lo_lJj kR ?_)
   (try simp only [Exit.inBlock, Exit.then])
   refine bodyPost_ret (res1 Tryz.results133 rfl (aggL _) (sizeL _) (ldL kO)) rfl ?_
   exact ⟨none, 0, 0, rfl, (by rw [hE.out]; exact OwnE.nil _ _), HB⟩
 · skip
   have bq : (tv == ml) = false := by simp; exact fun e => hhit ⟨rfl, e⟩
   clear hhit
   go_upto_region 5 with (go_skip)
   clear ct
   go_wp2_with (first | go_skip | refine wpList_stAt rfl 27 _ _ rfl (cells := (jC m.j).toArray) (lgC (rsF L m) (.slice none 0 0)) rfl rfl kR sizeJv (by show 2 + 11 ≤ 14; omega) (j_one _) (by rw [hE.out]; rfl) ?_ | (first | refine lo_Lj kL ?_ | refine lo_lJj kL ?_ | refine lo_Mj kM ?_ | refine lo_mJj kM ?_ | refine lo_Lj kO ?_ | refine lo_lJj kO ?_ | refine lo_Lj kR ?_ | refine lo_lJj kR ?_))
   intro y7 kR2 pO
   replace kL := kL.put pO (Nat.ne_of_lt LTkLkR.out)
   replace kM := kM.put pO (Nat.ne_of_lt LTkMkR.out)
   replace kO := kO.put pO (Nat.ne_of_lt LTkOkR.out)
   replace R0 := R0.putS pO NIR0kR.out
   replace HB := pO.below _ _ HB LEkR.out
   clear kR
   have kR := kR2
   clear kR2 pO
   go_wp2_with (first | go_skip | refine st_L rfl _ _ rfl (rsF L m) none 0 0 rfl rfl _ kO rfl ?_ | (first | refine lo_Lj kL ?_ | refine lo_lJj kL ?_ | refine lo_Mj kM ?_ | refine lo_mJj kM ?_ | refine lo_Lj kO ?_ | refine lo_lJj kO ?_ | refine lo_Lj kR ?_ | refine lo_lJj kR ?_))
   intro y8 kO2 pO
   replace kL := kL.put pO (Nat.ne_of_lt LTkLkO.out)
   replace kM := kM.put pO (Nat.ne_of_lt LTkMkO.out)
   replace kR := kR.put pO (Nat.ne_of_gt LTkOkR.out)
   replace R0 := R0.putS pO NIR0kO.out
   replace HB := pO.below _ _ HB LEkO.out
   clear kO
   have kO := kO2
   clear kO2 pO
   go_wp2_with (first | go_skip | refine lo_Lj kL ?_ | refine lo_lJj kL ?_ | refine lo_Mj kM ?_ | refine lo_mJj kM ?_ | refine lo_Lj kO ?_ | refine lo_lJj kO ?_ | refine lo_Lj kR ?_ | refine lo_lJj kR ?_)
   (try simp only [Exit.inBlock, Exit.then])
   refine bodyPost_ret (res1 Tryz.results133 rfl (aggL _) (sizeL _) (ldL kO)) rfl ?_
   exact ⟨none, 0, 0, rfl, (by rw [hE.out]; exact OwnE.nil _ _), HB⟩
def tsF (c : CoL) (m : MsL) : CoL × List MsL := if c.ro = 2 then (c, []) else if (mayJ m.j && upB m.lt c.tm) = true then snapF (follC c m) m else (c, [])
def safC (c : CoL) (m : MsL) : CoL := { follN c m.f with sf := max c.sf m.s }
def snpC (c : CoL) (m : MsL) : CoL := { safC c m with lg := rsF c.lg m, sn := m.d, cm := m.i }
theorem ts_old {c : CoL} {m : MsL} (h : ¬ c.ro = 2) (hj : mayJ m.j = true) (hl : upB m.lt c.tm = true) (hi : ¬ m.i > c.cm) : tsF c m = (safC c m, [{ letM (safC c m) 4 m.f with y := true, i := c.cm }]) := by
 unfold tsF; rw [if_neg h, hj, hl, if_pos (show (true && true) = true from rfl)]; unfold snapF; dsimp only
 rw [if_pos (show m.i ≤ (follC c m).cm from Int.not_lt.1 hi)]; rfl
theorem ts_new {c : CoL} {m : MsL} (h : ¬ c.ro = 2) (hj : mayJ m.j = true) (hl : upB m.lt c.tm = true) (hi : m.i > c.cm) : tsF c m = (snpC c m, [{ letM (snpC c m) 4 m.f with y := true, i := m.i }]) := by
 unfold tsF; rw [if_neg h, hj, hl, if_pos (show (true && true) = true from rfl)]; unfold snapF; dsimp only
 rw [if_neg (show ¬ m.i ≤ (follC c m).cm from Int.not_le.2 hi)]; rfl
theorem ts_no {c : CoL} {m : MsL} (h : c.ro = 2 ∨ (mayJ m.j && upB m.lt c.tm) = false) : tsF c m = (c, []) := by
 unfold tsF
 rcases h with h | h
 · rw [if_pos h]
 · split
   · rfl
   · rw [if_neg (by rw [h]; decide)]
set_option maxHeartbeats 4000000 in
set_option maxRecDepth 10000 in
theorem takeSnap_any (c : CoL) (A : Option Addr) (n p : Nat) (m : MsL) (Am : Option Addr) (nm pm : Nat) (w : World) (B : Nat) (hR : RdE w B A n c.lg.es) (hB : B ≤ w.heap.size) (hp : n ≤ p) (hf : Fit c.lg) (hj : m.j.ok) : Calls Tryz.prog 82 #[crV c (.slice A n p), msV m (.slice Am nm pm)] w fun e w' => ∃ A' n' p' v B', e = .returned (.tuple #[crV (tsF c m).1 (.slice A' n' p'), v]) ∧ RdE w' B' A' n' (tsF c m).1.lg.es ∧ n' ≤ p' ∧ OldNew w.heap.size A n A' n' ∧ OutL w' B' v (tsF c m).2 ∧ w.heap.size ≤ B' ∧ B' ≤ w'.heap.size ∧ Below w.heap.size w w' := by
 have HF := Lib.hid hf
 have hJ := Lib.hid hj
 have hS0 := Lib.hid (fun h => ts_no (c := c) (m := m) h)
 have hS1 := Lib.hid (fun h hj hl hi => ts_old (c := c) (m := m) h hj hl hi)
 have hS2 := Lib.hid (fun h hj hl hi => ts_new (c := c) (m := m) h hj hl hi)
 obtain ⟨mf, hmf⟩ : ∃ q, m.f = q := ⟨_, rfl⟩
 obtain ⟨mi, hmi⟩ : ∃ q, m.i = q := ⟨_, rfl⟩
 obtain ⟨ml, hml⟩ : ∃ q, m.lt = q := ⟨_, rfl⟩
 obtain ⟨ms, hms⟩ : ∃ q, m.s = q := ⟨_, rfl⟩
 obtain ⟨md, hmd⟩ : ∃ q, m.d = q := ⟨_, rfl⟩
 obtain ⟨ro, hro⟩ : ∃ q, c.ro = q := ⟨_, rfl⟩
 obtain ⟨tm, htm⟩ : ∃ q, c.tm = q := ⟨_, rfl⟩
 obtain ⟨cm, hcm⟩ : ∃ q, c.cm = q := ⟨_, rfl⟩
 obtain ⟨sf, hsf⟩ : ∃ q, c.sf = q := ⟨_, rfl⟩
 obtain ⟨mj, hmj⟩ : ∃ q, mayJ m.j = q := ⟨_, rfl⟩
 obtain ⟨ub, hub⟩ : ∃ q, upB ml tm = q := ⟨_, rfl⟩
 rw [hro, hmj, hml, htm, hub] at hS0 hS1 hS2
 rw [hmi, hcm] at hS1 hS2
 rw [hmf] at hS1 hS2
 obtain ⟨d1, hd1⟩ : ∃ q, safC c m = q := ⟨_, rfl⟩
 obtain ⟨d2, hd2⟩ : ∃ q, snpC c m = q := ⟨_, rfl⟩
 rw [hd1] at hS1
 rw [hd2] at hS2
 obtain ⟨sv, hsv⟩ : ∃ q, max sf ms = q := ⟨_, rfl⟩
 have hd1e : Hid ({ follN c mf with sf := sv } = d1) := by show _ = _; rw [← hd1, ← hsv, ← hmf, ← hsf, ← hms]; rfl
 have hd2e : Hid ({ d1 with lg := rsF c.lg m, sn := md, cm := mi } = d2) := by show _ = _; rw [← hd2, ← hd1, ← hmd, ← hmi]; rfl
 have hdp : Hid (d1.lg = c.lg ∧ d1.cm = cm ∧ d2.lg = rsF c.lg m ∧ d2.cm = mi ∧ d1.id = c.id) := by show _ ∧ _; rw [← hd1, ← hd2]; exact ⟨rfl, hcm, rfl, hmi, rfl⟩
 clear hf hj
 replace hmf := Lib.hid hmf
 replace hmi := Lib.hid hmi
 replace hml := Lib.hid hml
 replace hms := Lib.hid hms
 replace hmd := Lib.hid hmd
 replace hro := Lib.hid hro
 replace htm := Lib.hid htm
 replace hcm := Lib.hid hcm
 replace hsf := Lib.hid hsf
 replace hmj := Lib.hid hmj
 replace hub := Lib.hid hub
 replace hd1 := Lib.hid hd1
 replace hd2 := Lib.hid hd2
 have R0 := hR.more hB
 clear hR hB
 go_enter Tryz.func82, Tryz.ntmps82
 have NIR0kC := Lib.hid (NotIn.of_rd R0 (Nat.le_refl _))
 have LEkC : Hid (w.heap.size ≤ w.heap.size) := Nat.le_refl _
 go_wp2_with (first | go_skip | refine box_C rfl _ rfl c (.slice A n p) rfl ?_ | fail)
 intro y1 kC e1 s1
 clear s1
 have HB := e1
 replace R0 := R0.on e1 e1.size
 clear e1
 have LTkCkM := Lib.hid kC.lt
 go_wp2_with (first | go_skip | refine box_M rfl _ rfl m (.slice Am nm pm) rfl ?_ | (first | refine lo_Cj kC ?_ | refine lo_cLj kC ?_ | refine lo_cJj kC ?_))
 intro y2 kM e2 s2
 clear s2
 replace HB := bt HB e2
 replace kC := kC.b e2
 replace R0 := R0.on e2 e2.size
 clear e2
 generalize y1.heap.size = gkM at *
 have LTkCkO := Lib.hid kC.lt
 have LTkMkO := Lib.hid kM.lt
 have NIR0kO := Lib.hid (NotIn.of_rd R0 (Nat.le_refl _))
 have LEkO : Hid (w.heap.size ≤ y2.heap.size) := HB.size
 go_wp2_with (first | go_skip | refine al_C rfl rfl ?_ | (first | refine lo_Cj kC ?_ | refine lo_cLj kC ?_ | refine lo_cJj kC ?_ | refine lo_Mj kM ?_ | refine lo_mJj kM ?_))
 intro y3 kO e3 s3
 clear s3
 replace kO : Blk _ _ _ (crC zC (.slice none 0 0)) := kO
 replace HB := bt HB e3
 replace kC := kC.b e3
 replace kM := kM.b e3
 replace R0 := R0.on e3 e3.size
 clear e3
 generalize y2.heap.size = gkO at *
 have c_ro : y3.cell? ⟨w.heap.size, 1, none⟩ = some (.int .i64 ro) := by rw [← hro.out]; exact kC.cell 1
 by_cases h2 : ro = 2
 · skip
   have br : (ro == 2) = true := by simp [h2]
   replace h2 := Lib.hid h2
   have hE := Lib.hid (hS0.out (.inl h2.out))
   have hO := OutL.nil y3 y3.heap.size
   have hB7 := Lib.hid (HB.size)
   have RB := R0
   have RBz := Lib.hid (Nat.le_refl y3.heap.size)
   have LBhOkC := Lib.hid kC.lt
   have LBhOkM := Lib.hid kM.lt
   have LBhOkO := Lib.hid kO.lt
   have NIRBkO := NIR0kO
   obtain ⟨B9, hB9⟩ : ∃ q, y3.heap.size = q := ⟨_, rfl⟩
   rw [hB9] at hO hB7 RB RBz LBhOkC LBhOkM LBhOkO
   replace RBz := Lib.hid (show B9 ≤ y3.heap.size by rw [hB9]; exact Nat.le_refl _)
   clear hB9
   go_wp2_with (first | go_skip | refine st_C rfl _ _ rfl c A n p rfl rfl _ kO rfl ?_ | (first | refine lo_Cj kC ?_ | refine lo_cLj kC ?_ | refine lo_cJj kC ?_ | refine lo_Mj kM ?_ | refine lo_mJj kM ?_ | refine lo_Cj kO ?_ | refine lo_cLj kO ?_ | refine lo_cJj kO ?_))
   intro y4 kO2 pO
   replace kC := kC.put pO (Nat.ne_of_lt LTkCkO.out)
   replace kM := kM.put pO (Nat.ne_of_lt LTkMkO.out)
   replace R0 := R0.putS pO NIR0kO.out
   replace hO := hO.put pO LBhOkO.out
   replace RB := RB.putN pO NIRBkO.out
   replace RBz := Lib.hid (Nat.le_trans RBz.out (Nat.le_of_eq pO.size.symm))
   replace HB := pO.below _ _ HB LEkO.out
   clear kO
   have kO := kO2
   clear kO2 pO
   try clear c_ro
   go_wp2_with (first | go_skip | refine lo_Cj kC ?_ | refine lo_cLj kC ?_ | refine lo_cJj kC ?_ | refine lo_Mj kM ?_ | refine lo_mJj kM ?_ | refine lo_Cj kO ?_ | refine lo_cLj kO ?_ | refine lo_cJj kO ?_)
   (try simp only [Exit.inBlock, Exit.then])
   refine bodyPost_ret (res2 Tryz.results82 rfl rfl (aggC _) (sizeC _) (ldCv kO)) rfl ?_
   rw [hE.out]
   first | exact ⟨A, n, p, _, B9, rfl, RB, hp, OldNew.refl _ _ _, hO, hB7.out, RBz.out, HB⟩ | exact ⟨A, n, p, _, rfl, B9, RB, hp, OldNew.refl _ _ _, hO, hB7.out, RBz.out, HB⟩
 have br : (ro == 2) = false := by simp [h2]
 replace h2 := Lib.hid h2
 go_wp2_with (first | go_skip | refine lo_Cj kC ?_ | refine lo_cLj kC ?_ | refine lo_cJj kC ?_ | refine lo_Mj kM ?_ | refine lo_mJj kM ?_ | refine lo_Cj kO ?_ | refine lo_cLj kO ?_ | refine lo_cJj kO ?_)
 have CC := confi.mayJ_any m.j y3 hJ.out
 rw [hmj.out] at CC
 refine (CC).mono ?_
 rintro e y4 ⟨rfl, hY⟩
 replace HB := bt HB hY
 replace kC := kC.b hY
 replace kM := kM.b hY
 replace kO := kO.b hY
 replace R0 := R0.on hY hY.size
 clear hY
 clear CC c_ro
 rcases mj with _ | _
 · skip
   have hE := Lib.hid (hS0.out (.inr (by rfl)))
   have hO := OutL.nil y4 y4.heap.size
   have hB7 := Lib.hid (HB.size)
   have RB := R0
   have RBz := Lib.hid (Nat.le_refl y4.heap.size)
   have LBhOkC := Lib.hid kC.lt
   have LBhOkM := Lib.hid kM.lt
   have LBhOkO := Lib.hid kO.lt
   have NIRBkO := NIR0kO
   obtain ⟨B9, hB9⟩ : ∃ q, y4.heap.size = q := ⟨_, rfl⟩
   rw [hB9] at hO hB7 RB RBz LBhOkC LBhOkM LBhOkO
   replace RBz := Lib.hid (show B9 ≤ y4.heap.size by rw [hB9]; exact Nat.le_refl _)
   clear hB9
   go_wp2_with (first | go_skip | refine st_C rfl _ _ rfl c A n p rfl rfl _ kO rfl ?_ | (first | refine lo_Cj kC ?_ | refine lo_cLj kC ?_ | refine lo_cJj kC ?_ | refine lo_Mj kM ?_ | refine lo_mJj kM ?_ | refine lo_Cj kO ?_ | refine lo_cLj kO ?_ | refine lo_cJj kO ?_))
   intro y5 kO2 pO
   replace kC := kC.put pO (Nat.ne_of_lt LTkCkO.out)
   replace kM := kM.put pO (Nat.ne_of_lt LTkMkO.out)
   replace R0 := R0.putS pO NIR0kO.out
   replace hO := hO.put pO LBhOkO.out
   replace RB := RB.putN pO NIRBkO.out
   replace RBz := Lib.hid (Nat.le_trans RBz.out (Nat.le_of_eq pO.size.symm))
   replace HB := pO.below _ _ HB LEkO.out
   clear kO
   have kO := kO2
   clear kO2 pO
   try clear c_ro
   go_wp2_with (first | go_skip | refine lo_Cj kC ?_ | refine lo_cLj kC ?_ | refine lo_cJj kC ?_ | refine lo_Mj kM ?_ | refine lo_mJj kM ?_ | refine lo_Cj kO ?_ | refine lo_cLj kO ?_ | refine lo_cJj kO ?_)
   (try simp only [Exit.inBlock, Exit.then])
   refine bodyPost_ret (res2 Tryz.results82 rfl rfl (aggC _) (sizeC _) (ldCv kO)) rfl ?_
   rw [hE.out]
   first | exact ⟨A, n, p, _, B9, rfl, RB, hp, OldNew.refl _ _ _, hO, hB7.out, RBz.out, HB⟩ | exact ⟨A, n, p, _, rfl, B9, RB, hp, OldNew.refl _ _ _, hO, hB7.out, RBz.out, HB⟩
 have c_ml : y4.cell? ⟨gkM, 5, none⟩ = some (.int .i64 ml) := by rw [← hml.out]; exact kM.cell 5
 have c_tm : y4.cell? ⟨w.heap.size, 2, none⟩ = some (.int .i64 tm) := by rw [← htm.out]; exact kC.cell 2
 go_wp2_with (first | go_skip | refine lo_Cj kC ?_ | refine lo_cLj kC ?_ | refine lo_cJj kC ?_ | refine lo_Mj kM ?_ | refine lo_mJj kM ?_ | refine lo_Cj kO ?_ | refine lo_cLj kO ?_ | refine lo_cJj kO ?_)
 have CC := within_any ml 0 tm y4
 rw [wi_up, hub.out] at CC
 refine (CC).mono ?_
 rintro e y5 ⟨rfl, hW⟩
 subst hW
 clear CC c_ml c_tm
 rcases ub with _ | _
 · skip
   have hE := Lib.hid (hS0.out (.inr (by rfl)))
   have hO := OutL.nil y4 y4.heap.size
   have hB7 := Lib.hid (HB.size)
   have RB := R0
   have RBz := Lib.hid (Nat.le_refl y4.heap.size)
   have LBhOkC := Lib.hid kC.lt
   have LBhOkM := Lib.hid kM.lt
   have LBhOkO := Lib.hid kO.lt
   have NIRBkO := NIR0kO
   obtain ⟨B9, hB9⟩ : ∃ q, y4.heap.size = q := ⟨_, rfl⟩
   rw [hB9] at hO hB7 RB RBz LBhOkC LBhOkM LBhOkO
   replace RBz := Lib.hid (show B9 ≤ y4.heap.size by rw [hB9]; exact Nat.le_refl _)
   clear hB9
   go_wp2_with (first | go_skip | refine st_C rfl _ _ rfl c A n p rfl rfl _ kO rfl ?_ | (first | refine lo_Cj kC ?_ | refine lo_cLj kC ?_ | refine lo_cJj kC ?_ | refine lo_Mj kM ?_ | refine lo_mJj kM ?_ | refine lo_Cj kO ?_ | refine lo_cLj kO ?_ | refine lo_cJj kO ?_))
   intro y6 kO2 pO
   replace kC := kC.put pO (Nat.ne_of_lt LTkCkO.out)
   replace kM := kM.put pO (Nat.ne_of_lt LTkMkO.out)
   replace R0 := R0.putS pO NIR0kO.out
   replace hO := hO.put pO LBhOkO.out
   replace RB := RB.putN pO NIRBkO.out
   replace RBz := Lib.hid (Nat.le_trans RBz.out (Nat.le_of_eq pO.size.symm))
   replace HB := pO.below _ _ HB LEkO.out
   clear kO
   have kO := kO2
   clear kO2 pO
   try clear c_ro
   go_wp2_with (first | go_skip | refine lo_Cj kC ?_ | refine lo_cLj kC ?_ | refine lo_cJj kC ?_ | refine lo_Mj kM ?_ | refine lo_mJj kM ?_ | refine lo_Cj kO ?_ | refine lo_cLj kO ?_ | refine lo_cJj kO ?_)
   (try simp only [Exit.inBlock, Exit.then])
   refine bodyPost_ret (res2 Tryz.results82 rfl rfl (aggC _) (sizeC _) (ldCv kO)) rfl ?_
   rw [hE.out]
   first | exact ⟨A, n, p, _, B9, rfl, RB, hp, OldNew.refl _ _ _, hO, hB7.out, RBz.out, HB⟩ | exact ⟨A, n, p, _, rfl, B9, RB, hp, OldNew.refl _ _ _, hO, hB7.out, RBz.out, HB⟩
 have c_mf : y4.cell? ⟨gkM, 1, none⟩ = some (.int .i64 mf) := by rw [← hmf.out]; exact kM.cell 1
 go_wp2_with (first | go_skip | refine lo_Cj kC ?_ | refine lo_cLj kC ?_ | refine lo_cJj kC ?_ | refine lo_Mj kM ?_ | refine lo_mJj kM ?_ | refine lo_Cj kO ?_ | refine lo_cLj kO ?_ | refine lo_cJj kO ?_)
 refine (follow_any c A n p mf y4).mono ?_
 rintro e y6 ⟨rfl, hY⟩
 replace HB := bt HB hY
 replace kC := kC.b hY
 replace kM := kM.b hY
 replace kO := kO.b hY
 replace R0 := R0.on hY hY.size
 clear hY
 clear c_mf
 go_wp2_with (first | go_skip | refine st_C rfl _ _ rfl (follN c mf) A n p rfl rfl _ kC rfl ?_ | (first | refine lo_Cj kC ?_ | refine lo_cLj kC ?_ | refine lo_cJj kC ?_ | refine lo_Mj kM ?_ | refine lo_mJj kM ?_ | refine lo_Cj kO ?_ | refine lo_cLj kO ?_ | refine lo_cJj kO ?_))
 intro y7 kC2 pO
 replace kM := kM.put pO (Nat.ne_of_gt LTkCkM.out)
 replace kO := kO.put pO (Nat.ne_of_gt LTkCkO.out)
 replace R0 := R0.putS pO NIR0kC.out
 replace HB := pO.below _ _ HB LEkC.out
 clear kC
 have kC := kC2
 clear kC2 pO
 have csf : y7.cell? ⟨w.heap.size, 7, none⟩ = some (.int .i64 sf) := by rw [← hsf.out]; exact kC.cell 7
 have cms : y7.cell? ⟨gkM, 7, none⟩ = some (.int .i64 ms) := by rw [← hms.out]; exact kM.cell 7
 have df := fun i => kC.frozen i
 go_upto_region 5 with (go_skip)
 clear df csf cms
 have kC2 : Blk 33 _ w.heap.size (crC { follN c mf with sf := sv } (.slice A n p)) := kC.set_ 7 (.int .i64 sv)
 have pO := put_set y7 w.heap.size (7) (.int .i64 sv)
 generalize (y7.setCell ⟨w.heap.size, 7, none⟩ (.int .i64 sv)) = y8 at *
 replace kM := kM.put pO (Nat.ne_of_gt LTkCkM.out)
 replace kO := kO.put pO (Nat.ne_of_gt LTkCkO.out)
 replace R0 := R0.putS pO NIR0kC.out
 replace HB := pO.below _ _ HB LEkC.out
 clear kC
 have kC := kC2
 clear kC2 pO
 rw [hd1e.out] at kC
 replace hsv := Lib.hid hsv
 have c_mi : y8.cell? ⟨gkM, 4, none⟩ = some (.int .i64 mi) := by rw [← hmi.out]; exact kM.cell 4
 have c_cm : y8.cell? ⟨w.heap.size, 6, none⟩ = some (.int .i64 cm) := by rw [← hdp.out.2.1]; exact kC.cell 6
 by_cases hgt : mi > cm
 rotate_left
 · skip
   have hgt2 := Lib.hid hgt
   go_upto_region 7 with (go_skip)
   clear c_mi c_cm hgt
   rw [← hdp.out.1] at R0
   have hE := Lib.hid (hS1.out h2.out (by first | rfl | trivial) (by first | rfl | trivial) (by have := hgt2.out; omega))
   clear hS0 hS1 hS2
   have c_mf : y8.cell? ⟨gkM, 1, none⟩ = some (.int .i64 mf) := by rw [← hmf.out]; exact kM.cell 1
   go_wp2_with (first | go_skip | refine lo_Cj kC ?_ | refine lo_cLj kC ?_ | refine lo_cJj kC ?_ | refine lo_Mj kM ?_ | refine lo_mJj kM ?_ | refine lo_Cj kO ?_ | refine lo_cLj kO ?_ | refine lo_cJj kO ?_)
   clear c_mf
   refine (letter_any d1 A n p 4 mf y8).mono ?_
   rintro e y9 ⟨rfl, hY⟩
   replace HB := bt HB hY
   replace kC := kC.b hY
   replace kM := kM.b hY
   replace kO := kO.b hY
   replace R0 := R0.on hY hY.size
   clear hY
   have LTkCkA := Lib.hid kC.lt
   have LTkMkA := Lib.hid kM.lt
   have LTkOkA := Lib.hid kO.lt
   have NIR0kA := Lib.hid (NotIn.of_rd R0 (Nat.le_refl _))
   have LEkA : Hid (w.heap.size ≤ y9.heap.size) := HB.size
   go_wp2_with (first | go_skip | refine al_M rfl rfl ?_ | (first | refine lo_Cj kC ?_ | refine lo_cLj kC ?_ | refine lo_cJj kC ?_ | refine lo_Mj kM ?_ | refine lo_mJj kM ?_ | refine lo_Cj kO ?_ | refine lo_cLj kO ?_ | refine lo_cJj kO ?_))
   intro y10 kA e10 s10
   clear s10
   replace kA : Blk _ _ _ (msC zM (.slice none 0 0)) := kA
   replace HB := bt HB e10
   replace kC := kC.b e10
   replace kM := kM.b e10
   replace kO := kO.b e10
   replace R0 := R0.on e10 e10.size
   clear e10
   generalize y9.heap.size = gkA at *
   go_wp2_with (first | go_skip | refine st_M rfl _ _ rfl (letM d1 4 mf) none 0 0 rfl rfl _ kA rfl ?_ | (first | refine lo_Cj kC ?_ | refine lo_cLj kC ?_ | refine lo_cJj kC ?_ | refine lo_Mj kM ?_ | refine lo_mJj kM ?_ | refine lo_Cj kO ?_ | refine lo_cLj kO ?_ | refine lo_cJj kO ?_ | refine lo_Mj kA ?_ | refine lo_mJj kA ?_))
   intro y11 kA2 pO
   replace kC := kC.put pO (Nat.ne_of_lt LTkCkA.out)
   replace kM := kM.put pO (Nat.ne_of_lt LTkMkA.out)
   replace kO := kO.put pO (Nat.ne_of_lt LTkOkA.out)
   replace R0 := R0.putS pO NIR0kA.out
   replace HB := pO.below _ _ HB LEkA.out
   clear kA
   have kA := kA2
   clear kA2 pO
   go_upto_region 8 with (first | go_skip | refine lo_Cj kC ?_ | refine lo_cLj kC ?_ | refine lo_cJj kC ?_ | refine lo_Mj kM ?_ | refine lo_mJj kM ?_ | refine lo_Cj kO ?_ | refine lo_cLj kO ?_ | refine lo_cJj kO ?_ | refine lo_Mj kA ?_ | refine lo_mJj kA ?_)
   refine wp_region_held_drew (S := fun wq => wq.cell? ⟨w.heap.size, 6, none⟩ = some (.int .i64 cm)) (by kernel_rfl) ?s_tks8d1 (fun hHeld => ?_)
   case s_tks8d1 => exact (by rw [← hdp.out.2.1]; exact kC.cell 6)
   have hD := (Below.refl y11.heap.size y11).drew
   replace HB := bt HB hD
   replace kC := kC.b hD
   replace kM := kM.b hD
   replace kO := kO.b hD
   replace kA := kA.b hD
   replace R0 := R0.on hD hD.size
   clear hD
   generalize y11.drew = y12 at *
   refine tj 0 _ ?_
   try simp only [Act.put, ka, kb, kc]
   refine tj 1 _ ?_
   try simp only [Act.put, ka, kb, kc]
   refine tj 2 _ ?_
   try simp only [Act.put, ka, kb, kc]
   refine rr [3] ?_
   refine rc (fun KQ hKQ => ?_) AllReadyH.nil
   have df := fun i => kA.frozen i
   have cR : _ = some _ := kA.cell 8
   go_simp
   clear df cR
   have kA2 : Blk 49 _ gkA (msC { letM d1 4 mf with y := true } (.slice none 0 0)) := kA.set_ 8 (.bool true)
   have pO := put_set y12 gkA (8) (.bool true)
   generalize (y12.setCell ⟨gkA, 8, none⟩ (.bool true)) = y13 at *
   replace kC := kC.put pO (Nat.ne_of_lt LTkCkA.out)
   replace kM := kM.put pO (Nat.ne_of_lt LTkMkA.out)
   replace kO := kO.put pO (Nat.ne_of_lt LTkOkA.out)
   replace R0 := R0.putS pO NIR0kA.out
   replace HB := pO.below _ _ HB LEkA.out
   clear kA
   have kA := kA2
   clear kA2 pO
   refine hKQ.out _ _ ((by rw [← hdp.out.2.1]; exact kC.cell 6)) (fun _ => ?_)
   clear hKQ KQ
   try simp only [Act.put]
   refine tj 4 _ ?_
   try simp only [Act.put, ka, kb, kc]
   refine rr [5] ?_
   refine rc (fun KQ hKQ => ?_) AllReadyH.nil
   have df := fun i => kA.frozen i
   have cR : _ = some _ := kA.cell 4
   go_simp
   clear df cR
   have kA2 : Blk 49 _ gkA (msC { letM d1 4 mf with y := true, i := cm } (.slice none 0 0)) := kA.set_ 4 (.int .i64 cm)
   have pO := put_set y13 gkA (4) (.int .i64 cm)
   generalize (y13.setCell ⟨gkA, 4, none⟩ (.int .i64 cm)) = y14 at *
   replace kC := kC.put pO (Nat.ne_of_lt LTkCkA.out)
   replace kM := kM.put pO (Nat.ne_of_lt LTkMkA.out)
   replace kO := kO.put pO (Nat.ne_of_lt LTkOkA.out)
   replace R0 := R0.putS pO NIR0kA.out
   replace HB := pO.below _ _ HB LEkA.out
   clear kA
   have kA := kA2
   clear kA2 pO
   refine hKQ.out _ _ ((by rw [← hdp.out.2.1]; exact kC.cell 6)) (fun _ => ?_)
   clear hKQ KQ
   try simp only [Act.put]
   refine wpAnyH_done (by kernel_rfl) ?_ _
   go_upto_region 9 with (first | go_skip | refine lo_Cj kC ?_ | refine lo_cLj kC ?_ | refine lo_cJj kC ?_ | refine lo_Mj kM ?_ | refine lo_mJj kM ?_ | refine lo_Cj kO ?_ | refine lo_cLj kO ?_ | refine lo_cJj kO ?_ | refine lo_Mj kA ?_ | refine lo_mJj kA ?_)
   refine wp_region_held_drew (S := fun wq => Blk 33 wq w.heap.size (crC d1 (.slice A n p)) ∧ Blk 49 wq gkA (msC { letM d1 4 mf with y := true, i := cm } (.slice none 0 0))) (by kernel_rfl) ?s_tks9d1 (fun hHeld => ?_)
   case s_tks9d1 => exact ⟨kC, kA⟩
   have hD := (Below.refl y14.heap.size y14).drew
   replace HB := bt HB hD
   replace kC := kC.b hD
   replace kM := kM.b hD
   replace kO := kO.b hD
   replace kA := kA.b hD
   replace R0 := R0.on hD hD.size
   clear hD
   generalize y14.drew = yq at *
   refine tj 0 _ ?_ (hy := fun wq hSw => rld_C rfl rfl (And.left hSw))
   try simp only [Act.put, ka, kb, kc]
   refine tj 1 _ ?_ (hy := fun wq hSw => rld_M rfl rfl (And.right hSw))
   try simp only [Act.put, ka, kb, kc]
   refine rr [2, 3] ?_
   refine rc (fun KQ hKQ => ?_) (rc (fun KQ hKQ => ?_) (AllReadyH.nil))
   · refine step_bsR rfl _ 38 rfl _ rfl _ (run_bsM2 { letM d1 4 mf with y := true, i := cm } (.slice none 0 0) yq) ?_
     rintro v yq2 ⟨rfl, kB, hX⟩
     have hO := OutL.one (B := yq.heap.size) kB (OwnE.nil _ _) (Nat.le_refl _)
     have LBhOkC := Lib.hid kC.lt
     have LBhOkM := Lib.hid kM.lt
     have LBhOkO := Lib.hid kO.lt
     have NIRBkO := NIR0kO
     have RB := R0.below hX
     have hB7 := Lib.hid HB.size
     have RBz := Lib.hid hX.size
     clear kB
     replace HB := bt HB hX
     replace kC := kC.b hX
     replace kM := kM.b hX
     replace kO := kO.b hX
     replace kA := kA.b hX
     replace R0 := R0.on hX hX.size
     clear hX
     generalize yq.heap.size = B9 at *
     obtain ⟨yq, hyq⟩ : ∃ z, z = yq2 := ⟨_, rfl⟩
     subst hyq
     refine hKQ.out _ _ (⟨kC, kA⟩) (fun _ => ?_)
     clear hKQ KQ
     try simp only [Act.put, ka, kb, kc]
     refine rr [3] ?_
     refine rc (fun KQ hKQ => ?_) AllReadyH.nil
     refine step_stAt rfl 33 _ _ rfl (cells := (crC d1 (.slice A n p)).toArray) (crC d1 (.slice A n p)) rfl rfl kO sizeCv (by show 0 + 45 ≤ 45; omega) (cr_one _) rfl ?_
     intro yq2 kO2 pO
     try replace hO := hO.put pO LBhOkO.out
     try replace RB := RB.putN pO NIRBkO.out
     try replace RBz := Lib.hid (Nat.le_trans RBz.out (Nat.le_of_eq pO.size.symm))
     try replace hE7 := Lib.hid (hE7.out.put pO LBhOkO.out)
     replace kC := kC.put pO (Nat.ne_of_lt LTkCkO.out)
     replace kM := kM.put pO (Nat.ne_of_lt LTkMkO.out)
     replace kA := kA.put pO (Nat.ne_of_gt LTkOkA.out)
     replace R0 := R0.putS pO NIR0kO.out
     replace HB := pO.below _ _ HB LEkO.out
     clear kO
     have kO := kO2
     clear kO2 pO
     obtain ⟨yq, hyq⟩ : ∃ z, z = yq2 := ⟨_, rfl⟩
     subst hyq
     refine hKQ.out _ _ (⟨kC, kA⟩) (fun _ => ?_)
     clear hKQ KQ
     try simp only [Act.put]
     refine tj 4 _ ?_
     try simp only [Act.put, ka, kb, kc]
     refine wpAnyH_done (by kernel_rfl) ?_ _
     simp only [Exit.then]
     refine (‹∀ (a : Act) (w : World), Code.wp _ Code.ret _ a w → _›) _ _ (wp_ret ?_)
     show bodyPost _ _ _ Exit.ret _ _
     refine bodyPost_ret (res2 Tryz.results82 rfl rfl (aggC _) (sizeC _) (ldCv kO)) rfl ?_
     rw [hE.out]
     first | exact ⟨A, n, p, _, B9, rfl, RB, hp, OldNew.refl _ _ _, hO, hB7.out, RBz.out, HB⟩ | exact ⟨A, n, p, _, rfl, B9, RB, hp, OldNew.refl _ _ _, hO, hB7.out, RBz.out, HB⟩
   · refine step_stAt rfl 33 _ _ rfl (cells := (crC d1 (.slice A n p)).toArray) (crC d1 (.slice A n p)) rfl rfl kO sizeCv (by show 0 + 45 ≤ 45; omega) (cr_one _) rfl ?_
     intro yq2 kO2 pO
     try replace hO := hO.put pO LBhOkO.out
     try replace RB := RB.putN pO NIRBkO.out
     try replace RBz := Lib.hid (Nat.le_trans RBz.out (Nat.le_of_eq pO.size.symm))
     try replace hE7 := Lib.hid (hE7.out.put pO LBhOkO.out)
     replace kC := kC.put pO (Nat.ne_of_lt LTkCkO.out)
     replace kM := kM.put pO (Nat.ne_of_lt LTkMkO.out)
     replace kA := kA.put pO (Nat.ne_of_gt LTkOkA.out)
     replace R0 := R0.putS pO NIR0kO.out
     replace HB := pO.below _ _ HB LEkO.out
     clear kO
     have kO := kO2
     clear kO2 pO
     obtain ⟨yq, hyq⟩ : ∃ z, z = yq2 := ⟨_, rfl⟩
     subst hyq
     refine hKQ.out _ _ (⟨kC, kA⟩) (fun _ => ?_)
     clear hKQ KQ
     try simp only [Act.put]
     refine rr [2] ?_
     refine rc (fun KQ hKQ => ?_) AllReadyH.nil
     refine step_bsR rfl _ 38 rfl _ rfl _ (run_bsM2 { letM d1 4 mf with y := true, i := cm } (.slice none 0 0) yq) ?_
     rintro v yq2 ⟨rfl, kB, hX⟩
     have hO := OutL.one (B := yq.heap.size) kB (OwnE.nil _ _) (Nat.le_refl _)
     have LBhOkC := Lib.hid kC.lt
     have LBhOkM := Lib.hid kM.lt
     have LBhOkO := Lib.hid kO.lt
     have NIRBkO := NIR0kO
     have RB := R0.below hX
     have hB7 := Lib.hid HB.size
     have RBz := Lib.hid hX.size
     clear kB
     replace HB := bt HB hX
     replace kC := kC.b hX
     replace kM := kM.b hX
     replace kO := kO.b hX
     replace kA := kA.b hX
     replace R0 := R0.on hX hX.size
     clear hX
     generalize yq.heap.size = B9 at *
     obtain ⟨yq, hyq⟩ : ∃ z, z = yq2 := ⟨_, rfl⟩
     subst hyq
     refine hKQ.out _ _ (⟨kC, kA⟩) (fun _ => ?_)
     clear hKQ KQ
     try simp only [Act.put, ka, kb, kc]
     refine tj 4 _ ?_
     try simp only [Act.put, ka, kb, kc]
     refine wpAnyH_done (by kernel_rfl) ?_ _
     simp only [Exit.then]
     refine (‹∀ (a : Act) (w : World), Code.wp _ Code.ret _ a w → _›) _ _ (wp_ret ?_)
     show bodyPost _ _ _ Exit.ret _ _
     refine bodyPost_ret (res2 Tryz.results82 rfl rfl (aggC _) (sizeC _) (ldCv kO)) rfl ?_
     rw [hE.out]
     first | exact ⟨A, n, p, _, B9, rfl, RB, hp, OldNew.refl _ _ _, hO, hB7.out, RBz.out, HB⟩ | exact ⟨A, n, p, _, rfl, B9, RB, hp, OldNew.refl _ _ _, hO, hB7.out, RBz.out, HB⟩
 have hgt2 := Lib.hid hgt
 go_upto_region 6 with (first | go_skip | refine lo_Cj kC ?_ | refine lo_cLj kC ?_ | refine lo_cJj kC ?_ | refine lo_Mj kM ?_ | refine lo_mJj kM ?_ | refine lo_Cj kO ?_ | refine lo_cLj kO ?_ | refine lo_cJj kO ?_)
 clear c_mi c_cm hgt
 have kLC : Hid (lgC d1.lg (.slice A n p) = lgC c.lg (.slice A n p)) := by show _ = _; rw [hdp.out.1]
 refine wp_region_held_drew (S := fun wq => Blk 49 wq gkM (msC m (.slice Am nm pm)) ∧ wq.cell? ⟨gkM, 10, none⟩ = some (.string md) ∧ wq.cell? ⟨gkM, 4, none⟩ = some (.int .i64 mi)) (by kernel_rfl) ?s_tks6 (fun hHeld => ?_)
 case s_tks6 => exact ⟨kM, by rw [← hmd.out]; exact kM.cell 10, by rw [← hmi.out]; exact kM.cell 4⟩
 have hD := (Below.refl y8.heap.size y8).drew
 replace HB := bt HB hD
 replace kC := kC.b hD
 replace kM := kM.b hD
 replace kO := kO.b hD
 replace R0 := R0.on hD hD.size
 clear hD
 generalize y8.drew = y9 at *
 refine tj 0 _ ?_
 try simp only [Act.put, ka, kb, kc]
 refine tj 2 _ ?_ (hy := fun wq hSw => rld_M rfl rfl (And.left hSw))
 try simp only [Act.put, ka, kb, kc]
 refine tj 4 _ ?_
 try simp only [Act.put, ka, kb, kc]
 refine tj 5 _ ?_
 try simp only [Act.put, ka, kb, kc]
 refine tj 6 _ ?_
 try simp only [Act.put, ka, kb, kc]
 refine tj 7 _ ?_
 try simp only [Act.put, ka, kb, kc]
 refine rr [1] ?_
 refine rc (fun KQ hKQ => ?_) AllReadyH.nil
 have kAt := at_cL kC
 rw [kLC.out] at kAt
 refine ref13.step_val rfl (run_ldAt (cells := lgC c.lg (.slice A n p)) rfl rfl kAt (aggL _) (sizeL _)) ?_
 clear kAt
 refine hKQ.out _ _ (⟨kM, by rw [← hmd.out]; exact kM.cell 10, by rw [← hmi.out]; exact kM.cell 4⟩) (fun _ => ?_)
 clear hKQ KQ
 try simp only [Act.put, ka, kb, kc]
 refine rr [3] ?_
 refine rc (fun KQ hKQ => ?_) AllReadyH.nil
 go_simp
 have hb5 := Lib.hid HB.size
 refine (restored_any c.lg A n p m Am nm pm y9 y9.heap.size R0 (Nat.le_refl _) hp HF.out).mono ?_
 rintro e y10 ⟨A1, n1, p1, rfl, hO1, hY⟩
 have NIR1kC := Lib.hid (NotIn.of_own hO1 kC.lt)
 have NIR1kO := Lib.hid (NotIn.of_own hO1 kO.lt)
 have ON12 : Hid (OldNew w.heap.size A n A1 n1) := OldNew.own hO1 HB.size
 have R1 := hO1.cap.2.2.2
 have hp1 := hO1.cap.2.1
 clear hO1
 replace HB := bt HB hY
 replace kC := kC.b hY
 replace kM := kM.b hY
 replace kO := kO.b hY
 replace R0 := R0.on hY hY.size
 clear hY
 go_wp2_with fail
 refine hKQ.out _ _ (⟨kM, by rw [← hmd.out]; exact kM.cell 10, by rw [← hmi.out]; exact kM.cell 4⟩) (fun _ => ?_)
 clear hKQ KQ
 try simp only [Act.put, ka, kb, kc]
 refine tj 8 _ ?_
 try simp only [Act.put, ka, kb, kc]
 refine rr [9] ?_
 refine rc (fun KQ hKQ => ?_) AllReadyH.nil
 refine step_stAt rfl 30 _ _ rfl (cells := (lgC (rsF c.lg m) (.slice A1 n1 p1)).toArray) (crC { d1 with lg := rsF c.lg m } (.slice A1 n1 p1)) rfl rfl kC sizeLv (by show 8 + 14 ≤ 45; omega) (lg_one _) rfl ?_
 intro y11 kC2 pO
 replace kM := kM.put pO (Nat.ne_of_gt LTkCkM.out)
 replace kO := kO.put pO (Nat.ne_of_gt LTkCkO.out)
 replace R0 := R0.putS pO NIR0kC.out
 replace R1 := R1.putS pO NIR1kC.out
 replace HB := pO.below _ _ HB LEkC.out
 clear kC
 have kC := kC2
 clear kC2 pO
 refine hKQ.out _ _ (⟨kM, by rw [← hmd.out]; exact kM.cell 10, by rw [← hmi.out]; exact kM.cell 4⟩) (fun _ => ?_)
 clear hKQ KQ
 try simp only [Act.put]
 refine tj 10 _ ?_
 try simp only [Act.put, ka, kb, kc]
 refine rr [11] ?_
 refine rc (fun KQ hKQ => ?_) AllReadyH.nil
 have df := fun i => kC.frozen i
 have cR : _ = some _ := kC.cell 22
 go_simp
 clear df cR
 have kC2 : Blk 33 _ w.heap.size (crC { d1 with lg := rsF c.lg m, sn := md } (.slice A1 n1 p1)) := kC.set_ 22 (.string md)
 have pO := put_set y11 w.heap.size (22) (.string md)
 generalize (y11.setCell ⟨w.heap.size, 22, none⟩ (.string md)) = y12 at *
 replace kM := kM.put pO (Nat.ne_of_gt LTkCkM.out)
 replace kO := kO.put pO (Nat.ne_of_gt LTkCkO.out)
 replace R0 := R0.putS pO NIR0kC.out
 replace R1 := R1.putS pO NIR1kC.out
 replace HB := pO.below _ _ HB LEkC.out
 clear kC
 have kC := kC2
 clear kC2 pO
 refine hKQ.out _ _ (⟨kM, by rw [← hmd.out]; exact kM.cell 10, by rw [← hmi.out]; exact kM.cell 4⟩) (fun _ => ?_)
 clear hKQ KQ
 try simp only [Act.put]
 refine tj 12 _ ?_
 try simp only [Act.put, ka, kb, kc]
 refine rr [13] ?_
 refine rc (fun KQ hKQ => ?_) AllReadyH.nil
 have df := fun i => kC.frozen i
 have cR : _ = some _ := kC.cell 6
 go_simp
 clear df cR
 have kC2 : Blk 33 _ w.heap.size (crC { d1 with lg := rsF c.lg m, sn := md, cm := mi } (.slice A1 n1 p1)) := kC.set_ 6 (.int .i64 mi)
 have pO := put_set y12 w.heap.size (6) (.int .i64 mi)
 generalize (y12.setCell ⟨w.heap.size, 6, none⟩ (.int .i64 mi)) = y13 at *
 replace kM := kM.put pO (Nat.ne_of_gt LTkCkM.out)
 replace kO := kO.put pO (Nat.ne_of_gt LTkCkO.out)
 replace R0 := R0.putS pO NIR0kC.out
 replace R1 := R1.putS pO NIR1kC.out
 replace HB := pO.below _ _ HB LEkC.out
 clear kC
 have kC := kC2
 clear kC2 pO
 refine hKQ.out _ _ (⟨kM, by rw [← hmd.out]; exact kM.cell 10, by rw [← hmi.out]; exact kM.cell 4⟩) (fun _ => ?_)
 clear hKQ KQ
 try simp only [Act.put]
 refine wpAnyH_done (by kernel_rfl) ?_ _
 rw [hd2e.out] at kC
 rw [← hdp.out.2.2.1] at R1
 have hE := Lib.hid (hS2.out h2.out (by first | rfl | trivial) (by first | rfl | trivial) (by have := hgt2.out; omega))
 clear hS0 hS1 hS2
 have c_mf : y13.cell? ⟨gkM, 1, none⟩ = some (.int .i64 mf) := by rw [← hmf.out]; exact kM.cell 1
 go_wp2_with (first | go_skip | refine lo_Cj kC ?_ | refine lo_cLj kC ?_ | refine lo_cJj kC ?_ | refine lo_Mj kM ?_ | refine lo_mJj kM ?_ | refine lo_Cj kO ?_ | refine lo_cLj kO ?_ | refine lo_cJj kO ?_)
 clear c_mf
 refine (letter_any d2 A1 n1 p1 4 mf y13).mono ?_
 rintro e y14 ⟨rfl, hY⟩
 replace HB := bt HB hY
 replace kC := kC.b hY
 replace kM := kM.b hY
 replace kO := kO.b hY
 replace R0 := R0.on hY hY.size
 replace R1 := R1.on hY hY.size
 clear hY
 have LTkCkA := Lib.hid kC.lt
 have LTkMkA := Lib.hid kM.lt
 have LTkOkA := Lib.hid kO.lt
 have NIR0kA := Lib.hid (NotIn.of_rd R0 (Nat.le_refl _))
 have NIR1kA := Lib.hid (NotIn.of_rd R1 (Nat.le_refl _))
 have LEkA : Hid (w.heap.size ≤ y14.heap.size) := HB.size
 go_wp2_with (first | go_skip | refine al_M rfl rfl ?_ | (first | refine lo_Cj kC ?_ | refine lo_cLj kC ?_ | refine lo_cJj kC ?_ | refine lo_Mj kM ?_ | refine lo_mJj kM ?_ | refine lo_Cj kO ?_ | refine lo_cLj kO ?_ | refine lo_cJj kO ?_))
 intro y15 kA e15 s15
 clear s15
 replace kA : Blk _ _ _ (msC zM (.slice none 0 0)) := kA
 replace HB := bt HB e15
 replace kC := kC.b e15
 replace kM := kM.b e15
 replace kO := kO.b e15
 replace R0 := R0.on e15 e15.size
 replace R1 := R1.on e15 e15.size
 clear e15
 generalize y14.heap.size = gkA at *
 go_wp2_with (first | go_skip | refine st_M rfl _ _ rfl (letM d2 4 mf) none 0 0 rfl rfl _ kA rfl ?_ | (first | refine lo_Cj kC ?_ | refine lo_cLj kC ?_ | refine lo_cJj kC ?_ | refine lo_Mj kM ?_ | refine lo_mJj kM ?_ | refine lo_Cj kO ?_ | refine lo_cLj kO ?_ | refine lo_cJj kO ?_ | refine lo_Mj kA ?_ | refine lo_mJj kA ?_))
 intro y16 kA2 pO
 replace kC := kC.put pO (Nat.ne_of_lt LTkCkA.out)
 replace kM := kM.put pO (Nat.ne_of_lt LTkMkA.out)
 replace kO := kO.put pO (Nat.ne_of_lt LTkOkA.out)
 replace R0 := R0.putS pO NIR0kA.out
 replace R1 := R1.putS pO NIR1kA.out
 replace HB := pO.below _ _ HB LEkA.out
 clear kA
 have kA := kA2
 clear kA2 pO
 go_upto_region 8 with (first | go_skip | refine lo_Cj kC ?_ | refine lo_cLj kC ?_ | refine lo_cJj kC ?_ | refine lo_Mj kM ?_ | refine lo_mJj kM ?_ | refine lo_Cj kO ?_ | refine lo_cLj kO ?_ | refine lo_cJj kO ?_ | refine lo_Mj kA ?_ | refine lo_mJj kA ?_)
 refine wp_region_held_drew (S := fun wq => wq.cell? ⟨w.heap.size, 6, none⟩ = some (.int .i64 mi)) (by kernel_rfl) ?s_tks8d2 (fun hHeld => ?_)
 case s_tks8d2 => exact (by rw [← hdp.out.2.2.2.1]; exact kC.cell 6)
 have hD := (Below.refl y16.heap.size y16).drew
 replace HB := bt HB hD
 replace kC := kC.b hD
 replace kM := kM.b hD
 replace kO := kO.b hD
 replace kA := kA.b hD
 replace R0 := R0.on hD hD.size
 replace R1 := R1.on hD hD.size
 clear hD
 generalize y16.drew = y17 at *
 refine tj 0 _ ?_
 try simp only [Act.put, ka, kb, kc]
 refine tj 1 _ ?_
 try simp only [Act.put, ka, kb, kc]
 refine tj 2 _ ?_
 try simp only [Act.put, ka, kb, kc]
 refine rr [3] ?_
 refine rc (fun KQ hKQ => ?_) AllReadyH.nil
 have df := fun i => kA.frozen i
 have cR : _ = some _ := kA.cell 8
 go_simp
 clear df cR
 have kA2 : Blk 49 _ gkA (msC { letM d2 4 mf with y := true } (.slice none 0 0)) := kA.set_ 8 (.bool true)
 have pO := put_set y17 gkA (8) (.bool true)
 generalize (y17.setCell ⟨gkA, 8, none⟩ (.bool true)) = y18 at *
 replace kC := kC.put pO (Nat.ne_of_lt LTkCkA.out)
 replace kM := kM.put pO (Nat.ne_of_lt LTkMkA.out)
 replace kO := kO.put pO (Nat.ne_of_lt LTkOkA.out)
 replace R0 := R0.putS pO NIR0kA.out
 replace R1 := R1.putS pO NIR1kA.out
 replace HB := pO.below _ _ HB LEkA.out
 clear kA
 have kA := kA2
 clear kA2 pO
 refine hKQ.out _ _ ((by rw [← hdp.out.2.2.2.1]; exact kC.cell 6)) (fun _ => ?_)
 clear hKQ KQ
 try simp only [Act.put]
 refine tj 4 _ ?_
 try simp only [Act.put, ka, kb, kc]
 refine rr [5] ?_
 refine rc (fun KQ hKQ => ?_) AllReadyH.nil
 have df := fun i => kA.frozen i
 have cR : _ = some _ := kA.cell 4
 go_simp
 clear df cR
 have kA2 : Blk 49 _ gkA (msC { letM d2 4 mf with y := true, i := mi } (.slice none 0 0)) := kA.set_ 4 (.int .i64 mi)
 have pO := put_set y18 gkA (4) (.int .i64 mi)
 generalize (y18.setCell ⟨gkA, 4, none⟩ (.int .i64 mi)) = y19 at *
 replace kC := kC.put pO (Nat.ne_of_lt LTkCkA.out)
 replace kM := kM.put pO (Nat.ne_of_lt LTkMkA.out)
 replace kO := kO.put pO (Nat.ne_of_lt LTkOkA.out)
 replace R0 := R0.putS pO NIR0kA.out
 replace R1 := R1.putS pO NIR1kA.out
 replace HB := pO.below _ _ HB LEkA.out
 clear kA
 have kA := kA2
 clear kA2 pO
 refine hKQ.out _ _ ((by rw [← hdp.out.2.2.2.1]; exact kC.cell 6)) (fun _ => ?_)
 clear hKQ KQ
 try simp only [Act.put]
 refine wpAnyH_done (by kernel_rfl) ?_ _
 go_upto_region 9 with (first | go_skip | refine lo_Cj kC ?_ | refine lo_cLj kC ?_ | refine lo_cJj kC ?_ | refine lo_Mj kM ?_ | refine lo_mJj kM ?_ | refine lo_Cj kO ?_ | refine lo_cLj kO ?_ | refine lo_cJj kO ?_ | refine lo_Mj kA ?_ | refine lo_mJj kA ?_)
 refine wp_region_held_drew (S := fun wq => Blk 33 wq w.heap.size (crC d2 (.slice A1 n1 p1)) ∧ Blk 49 wq gkA (msC { letM d2 4 mf with y := true, i := mi } (.slice none 0 0))) (by kernel_rfl) ?s_tks9d2 (fun hHeld => ?_)
 case s_tks9d2 => exact ⟨kC, kA⟩
 have hD := (Below.refl y19.heap.size y19).drew
 replace HB := bt HB hD
 replace kC := kC.b hD
 replace kM := kM.b hD
 replace kO := kO.b hD
 replace kA := kA.b hD
 replace R0 := R0.on hD hD.size
 replace R1 := R1.on hD hD.size
 clear hD
 generalize y19.drew = yq at *
 refine tj 0 _ ?_ (hy := fun wq hSw => rld_C rfl rfl (And.left hSw))
 try simp only [Act.put, ka, kb, kc]
 refine tj 1 _ ?_ (hy := fun wq hSw => rld_M rfl rfl (And.right hSw))
 try simp only [Act.put, ka, kb, kc]
 refine rr [2, 3] ?_
 refine rc (fun KQ hKQ => ?_) (rc (fun KQ hKQ => ?_) (AllReadyH.nil))
 · refine step_bsR rfl _ 38 rfl _ rfl _ (run_bsM2 { letM d2 4 mf with y := true, i := mi } (.slice none 0 0) yq) ?_
   rintro v yq2 ⟨rfl, kB, hX⟩
   have hO := OutL.one (B := yq.heap.size) kB (OwnE.nil _ _) (Nat.le_refl _)
   have LBhOkC := Lib.hid kC.lt
   have LBhOkM := Lib.hid kM.lt
   have LBhOkO := Lib.hid kO.lt
   have NIRBkO := NIR1kO
   have RB := R1.below hX
   have hB7 := Lib.hid HB.size
   have RBz := Lib.hid hX.size
   clear kB
   replace HB := bt HB hX
   replace kC := kC.b hX
   replace kM := kM.b hX
   replace kO := kO.b hX
   replace kA := kA.b hX
   replace R0 := R0.on hX hX.size
   replace R1 := R1.on hX hX.size
   clear hX
   generalize yq.heap.size = B9 at *
   obtain ⟨yq, hyq⟩ : ∃ z, z = yq2 := ⟨_, rfl⟩
   subst hyq
   refine hKQ.out _ _ (⟨kC, kA⟩) (fun _ => ?_)
   clear hKQ KQ
   try simp only [Act.put, ka, kb, kc]
   refine rr [3] ?_
   refine rc (fun KQ hKQ => ?_) AllReadyH.nil
   refine step_stAt rfl 33 _ _ rfl (cells := (crC d2 (.slice A1 n1 p1)).toArray) (crC d2 (.slice A1 n1 p1)) rfl rfl kO sizeCv (by show 0 + 45 ≤ 45; omega) (cr_one _) rfl ?_
   intro yq2 kO2 pO
   try replace hO := hO.put pO LBhOkO.out
   try replace RB := RB.putN pO NIRBkO.out
   try replace RBz := Lib.hid (Nat.le_trans RBz.out (Nat.le_of_eq pO.size.symm))
   try replace hE7 := Lib.hid (hE7.out.put pO LBhOkO.out)
   replace kC := kC.put pO (Nat.ne_of_lt LTkCkO.out)
   replace kM := kM.put pO (Nat.ne_of_lt LTkMkO.out)
   replace kA := kA.put pO (Nat.ne_of_gt LTkOkA.out)
   replace R0 := R0.putS pO NIR0kO.out
   replace R1 := R1.putS pO NIR1kO.out
   replace HB := pO.below _ _ HB LEkO.out
   clear kO
   have kO := kO2
   clear kO2 pO
   obtain ⟨yq, hyq⟩ : ∃ z, z = yq2 := ⟨_, rfl⟩
   subst hyq
   refine hKQ.out _ _ (⟨kC, kA⟩) (fun _ => ?_)
   clear hKQ KQ
   try simp only [Act.put]
   refine tj 4 _ ?_
   try simp only [Act.put, ka, kb, kc]
   refine wpAnyH_done (by kernel_rfl) ?_ _
   simp only [Exit.then]
   refine (‹∀ (a : Act) (w : World), Code.wp _ Code.ret _ a w → _›) _ _ (wp_ret ?_)
   show bodyPost _ _ _ Exit.ret _ _
   refine bodyPost_ret (res2 Tryz.results82 rfl rfl (aggC _) (sizeC _) (ldCv kO)) rfl ?_
   rw [hE.out]
   first | exact ⟨A1, n1, p1, _, B9, rfl, RB, hp1, ON12.out, hO, hB7.out, RBz.out, HB⟩ | exact ⟨A1, n1, p1, _, rfl, B9, RB, hp1, ON12.out, hO, hB7.out, RBz.out, HB⟩
 · refine step_stAt rfl 33 _ _ rfl (cells := (crC d2 (.slice A1 n1 p1)).toArray) (crC d2 (.slice A1 n1 p1)) rfl rfl kO sizeCv (by show 0 + 45 ≤ 45; omega) (cr_one _) rfl ?_
   intro yq2 kO2 pO
   try replace hO := hO.put pO LBhOkO.out
   try replace RB := RB.putN pO NIRBkO.out
   try replace RBz := Lib.hid (Nat.le_trans RBz.out (Nat.le_of_eq pO.size.symm))
   try replace hE7 := Lib.hid (hE7.out.put pO LBhOkO.out)
   replace kC := kC.put pO (Nat.ne_of_lt LTkCkO.out)
   replace kM := kM.put pO (Nat.ne_of_lt LTkMkO.out)
   replace kA := kA.put pO (Nat.ne_of_gt LTkOkA.out)
   replace R0 := R0.putS pO NIR0kO.out
   replace R1 := R1.putS pO NIR1kO.out
   replace HB := pO.below _ _ HB LEkO.out
   clear kO
   have kO := kO2
   clear kO2 pO
   obtain ⟨yq, hyq⟩ : ∃ z, z = yq2 := ⟨_, rfl⟩
   subst hyq
   refine hKQ.out _ _ (⟨kC, kA⟩) (fun _ => ?_)
   clear hKQ KQ
   try simp only [Act.put]
   refine rr [2] ?_
   refine rc (fun KQ hKQ => ?_) AllReadyH.nil
   refine step_bsR rfl _ 38 rfl _ rfl _ (run_bsM2 { letM d2 4 mf with y := true, i := mi } (.slice none 0 0) yq) ?_
   rintro v yq2 ⟨rfl, kB, hX⟩
   have hO := OutL.one (B := yq.heap.size) kB (OwnE.nil _ _) (Nat.le_refl _)
   have LBhOkC := Lib.hid kC.lt
   have LBhOkM := Lib.hid kM.lt
   have LBhOkO := Lib.hid kO.lt
   have NIRBkO := NIR1kO
   have RB := R1.below hX
   have hB7 := Lib.hid HB.size
   have RBz := Lib.hid hX.size
   clear kB
   replace HB := bt HB hX
   replace kC := kC.b hX
   replace kM := kM.b hX
   replace kO := kO.b hX
   replace kA := kA.b hX
   replace R0 := R0.on hX hX.size
   replace R1 := R1.on hX hX.size
   clear hX
   generalize yq.heap.size = B9 at *
   obtain ⟨yq, hyq⟩ : ∃ z, z = yq2 := ⟨_, rfl⟩
   subst hyq
   refine hKQ.out _ _ (⟨kC, kA⟩) (fun _ => ?_)
   clear hKQ KQ
   try simp only [Act.put, ka, kb, kc]
   refine tj 4 _ ?_
   try simp only [Act.put, ka, kb, kc]
   refine wpAnyH_done (by kernel_rfl) ?_ _
   simp only [Exit.then]
   refine (‹∀ (a : Act) (w : World), Code.wp _ Code.ret _ a w → _›) _ _ (wp_ret ?_)
   show bodyPost _ _ _ Exit.ret _ _
   refine bodyPost_ret (res2 Tryz.results82 rfl rfl (aggC _) (sizeC _) (ldCv kO)) rfl ?_
   rw [hE.out]
   first | exact ⟨A1, n1, p1, _, B9, rfl, RB, hp1, ON12.out, hO, hB7.out, RBz.out, HB⟩ | exact ⟨A1, n1, p1, _, rfl, B9, RB, hp1, ON12.out, hO, hB7.out, RBz.out, HB⟩
end Go.Proofs.YtegnfkbmlalkeaaGreat.cor
