/- The landed core: May, by what fails first. Conditions: those that the theorems name. -/
import Derived.Deep.RegionHeld3
import Derived.Deep.Cut
import Derived.Lib.Hide
import Derived.Test.YtegnfkbmlalkeaaGreatStKitCl
import Derived.Test.YtegnfkbmlalkeaaGreatStJ4
import Derived.Test.YtegnfkbmlalkeaaGreatStJ0
import Derived.Test.YtegnfkbmlalkeaaGreatStCorMb13
import Derived.Test.YtegnfkbmlalkeaaGreatStKitLg
set_option linter.unusedVariables false
set_option maxHeartbeats 16000000
set_option maxRecDepth 10000
namespace Go.Proofs.YtegnfkbmlalkeaaGreat.cor
open Go Go.RowKit kit nums cf lg cr se
theorem may_5 (c : CoL) (A : Option Addr) (n p : Nat) (w : World) (B : Nat) (hR : RdE w B A n c.lg.es) (hB : B ≤ w.heap.size) (hp : n ≤ p) (hn : n ≤ 1000000) (hj : c.lg.j.ok) (hok : ∀ x ∈ c.lg.es, x.j.ok) (e0 : (nodeB c.id) = true) (e1 : (upB c.ro 2) = true) (e2 : (upB c.tm 1099511627776) = true) (e3 : (upB c.vo 9) = true) (e4 : (upB c.le 9) = true) (e5 : (mayG c.lg) = false) : Calls Tryz.prog 13 #[crV c (.slice A n p)] w fun e w' => e = .returned (.bool (mayK c)) ∧ Below w.heap.size w w' := by
 have HOk := Lh hok
 have HJ := Lh hj
 have hn2 := Lh hn
 have hlen := Lh hR.len
 have hF : Hid (mayK c = false) := Lh (by rw [mayK_form, e0, e1, e2, e3, e4, e5]; rfl)
 have h0 := Lh e0
 have h1 := Lh e1
 have h2 := Lh e2
 have h3 := Lh e3
 have h4 := Lh e4
 have h5 := Lh e5
 obtain ⟨lw, hlw⟩ : ∃ q, IntKind.i64.wrap (c.lg.b + (n : Int)) = q := ⟨_, rfl⟩
 obtain ⟨tv, htv⟩ : ∃ q, (termF c.lg (lastF c.lg)).1 = q := ⟨_, rfl⟩
 clear hok hj hn e0 e1 e2 e3 e4 e5
 replace hlw := Lh hlw
 replace htv := Lh htv
 have R0 := hR.more hB
 clear hR hB
 go_enter Tryz.func13, Tryz.ntmps13
 go_wp2_with (first | go_skip | refine box_C rfl _ rfl c (.slice A n p) rfl ?_ | fail)
 intro y1 kC e1 s1
 clear s1
 have HB := e1
 replace R0 := R0.on e1 e1.size
 clear e1
 go_wp2_with (first | go_skip | refine lo_Cj kC ?_ | refine lo_cLj kC ?_ | refine lo_cJj kC ?_)
 have CC := last_all c.lg A n p y1
 rw [hlw.out] at CC
 refine (CC).mono ?_
 rintro e y2 ⟨rfl, hY⟩
 replace HB := bt HB hY
 replace kC := kC.b hY
 replace R0 := R0.on hY hY.size
 clear hY
 clear CC
 go_upto_region 2 with (first | go_skip | refine lo_Cj kC ?_ | refine lo_cLj kC ?_ | refine lo_cJj kC ?_)
 simp only [List.append_eq, List.cons_append, List.nil_append]
 refine wp_region_held_drew (S := fun wq => At wq w.heap.size 8 (lgC c.lg (.slice A n p)) ∧ At wq w.heap.size 25 (a10C c.nx) ∧ At wq w.heap.size 35 (a10C c.mt) ∧ wq.cell? ⟨w.heap.size, 0, none⟩ = some (.int .i64 c.id) ∧ wq.cell? ⟨w.heap.size, 1, none⟩ = some (.int .i64 c.ro) ∧ wq.cell? ⟨w.heap.size, 2, none⟩ = some (.int .i64 c.tm) ∧ wq.cell? ⟨w.heap.size, 3, none⟩ = some (.int .i64 c.vo) ∧ wq.cell? ⟨w.heap.size, 4, none⟩ = some (.int .i64 c.le) ∧ wq.cell? ⟨w.heap.size, 5, none⟩ = some (.int .i64 c.wa) ∧ wq.cell? ⟨w.heap.size, 6, none⟩ = some (.int .i64 c.cm) ∧ wq.cell? ⟨w.heap.size, 7, none⟩ = some (.int .i64 c.sf) ∧ wq.cell? ⟨w.heap.size, 8, none⟩ = some (.int .i64 c.lg.b)) (by kernel_rfl) ?s_may2_5 (fun hHeld => ?_)
 case s_may2_5 => exact ⟨at_cL kC, at_cN kC, at_cT kC, kC.cell 0, kC.cell 1, kC.cell 2, kC.cell 3, kC.cell 4, kC.cell 5, kC.cell 6, kC.cell 7, kC.cell 8⟩
 have hD := (Below.refl y2.heap.size y2).drew
 replace HB := bt HB hD
 replace kC := kC.b hD
 replace R0 := R0.on hD hD.size
 clear hD
 generalize y2.drew = y3 at *
 iterate 2 (refine tx 0 _ ?_; try simp only [Act.put, ka, kb, kc])
 refine rr [2] ?_
 refine rc (fun KQ hKQ => ?_) AllReadyH.nil
 go_simp
 have CC := isnode_any c.id y3
 rw [h0.out] at CC
 refine (CC).mono ?_
 rintro e y4 ⟨rfl, hW⟩
 subst hW
 clear CC
 go_wp2_with fail
 refine hKQ.out _ _ (⟨at_cL kC, at_cN kC, at_cT kC, kC.cell 0, kC.cell 1, kC.cell 2, kC.cell 3, kC.cell 4, kC.cell 5, kC.cell 6, kC.cell 7, kC.cell 8⟩) (fun _ => ?_)
 clear hKQ KQ
 try simp only [Act.put, ka, kb, kc]
 iterate 3 (refine tx 3 _ ?_; try simp only [Act.put, ka, kb, kc])
 refine rr [6] ?_
 refine rc (fun KQ hKQ => ?_) AllReadyH.nil
 go_simp
 have CC := within_any c.ro 0 2 y3
 rw [wi_up, h1.out] at CC
 refine (CC).mono ?_
 rintro e y5 ⟨rfl, hW⟩
 subst hW
 clear CC
 go_wp2_with fail
 refine hKQ.out _ _ (⟨at_cL kC, at_cN kC, at_cT kC, kC.cell 0, kC.cell 1, kC.cell 2, kC.cell 3, kC.cell 4, kC.cell 5, kC.cell 6, kC.cell 7, kC.cell 8⟩) (fun _ => ?_)
 clear hKQ KQ
 try simp only [Act.put, ka, kb, kc]
 iterate 4 (refine tx 7 _ ?_; try simp only [Act.put, ka, kb, kc])
 refine rr [11] ?_
 refine rc (fun KQ hKQ => ?_) AllReadyH.nil
 go_simp
 have CC := within_any c.tm 0 1099511627776 y3
 rw [wi_up, h2.out] at CC
 refine (CC).mono ?_
 rintro e y6 ⟨rfl, hW⟩
 subst hW
 clear CC
 go_wp2_with fail
 refine hKQ.out _ _ (⟨at_cL kC, at_cN kC, at_cT kC, kC.cell 0, kC.cell 1, kC.cell 2, kC.cell 3, kC.cell 4, kC.cell 5, kC.cell 6, kC.cell 7, kC.cell 8⟩) (fun _ => ?_)
 clear hKQ KQ
 try simp only [Act.put, ka, kb, kc]
 iterate 4 (refine tx 12 _ ?_; try simp only [Act.put, ka, kb, kc])
 refine rr [16] ?_
 refine rc (fun KQ hKQ => ?_) AllReadyH.nil
 go_simp
 have CC := within_any c.vo 0 9 y3
 rw [wi_up, h3.out] at CC
 refine (CC).mono ?_
 rintro e y7 ⟨rfl, hW⟩
 subst hW
 clear CC
 go_wp2_with fail
 refine hKQ.out _ _ (⟨at_cL kC, at_cN kC, at_cT kC, kC.cell 0, kC.cell 1, kC.cell 2, kC.cell 3, kC.cell 4, kC.cell 5, kC.cell 6, kC.cell 7, kC.cell 8⟩) (fun _ => ?_)
 clear hKQ KQ
 try simp only [Act.put, ka, kb, kc]
 iterate 4 (refine tx 17 _ ?_; try simp only [Act.put, ka, kb, kc])
 refine rr [21] ?_
 refine rc (fun KQ hKQ => ?_) AllReadyH.nil
 go_simp
 have CC := within_any c.le 0 9 y3
 rw [wi_up, h4.out] at CC
 refine (CC).mono ?_
 rintro e y8 ⟨rfl, hW⟩
 subst hW
 clear CC
 go_wp2_with fail
 refine hKQ.out _ _ (⟨at_cL kC, at_cN kC, at_cT kC, kC.cell 0, kC.cell 1, kC.cell 2, kC.cell 3, kC.cell 4, kC.cell 5, kC.cell 6, kC.cell 7, kC.cell 8⟩) (fun _ => ?_)
 clear hKQ KQ
 try simp only [Act.put, ka, kb, kc]
 iterate 3 (refine tx 22 _ ?_; try simp only [Act.put, ka, kb, kc])
 refine tj 25 ((lgV c.lg (.slice A n p))) ?_ (hy := fun wq hSw => run_ldAt rfl rfl hSw.1 (aggL _) (sizeL _))
 try simp only [Act.put, ka, kb, kc]
 refine rr [26] ?_
 refine rc (fun KQ hKQ => ?_) AllReadyH.nil
 go_simp
 have CC := mayLog_any c.lg A n p y3 y3.heap.size R0 (Nat.le_refl _) (by have := hn2.out; omega) HJ.out HOk.out
 rw [h5.out] at CC
 refine (CC).mono ?_
 rintro e y9 ⟨rfl, hY⟩
 replace HB := bt HB hY
 replace kC := kC.b hY
 replace R0 := R0.on hY hY.size
 clear hY
 clear CC
 go_wp2_with fail
 refine hKQ.out _ _ (⟨at_cL kC, at_cN kC, at_cT kC, kC.cell 0, kC.cell 1, kC.cell 2, kC.cell 3, kC.cell 4, kC.cell 5, kC.cell 6, kC.cell 7, kC.cell 8⟩) (fun _ => ?_)
 clear hKQ KQ
 try simp only [Act.put, ka, kb, kc]
 iterate 2 (refine tx 27 _ ?_; try simp only [Act.put, ka, kb, kc])
 refine skips [(29, 36), (30, 37), (31, 38), (32, 39), (33, 40), (34, 41)] (fuel := 32) ?_
 simp only [List.foldl_cons, List.foldl_nil, List.setIfInBounds_toArray, List.set_cons_zero, List.set_cons_succ]
 iterate 2 (refine tx 35 _ ?_; try simp only [Act.put, ka, kb, kc])
 refine skips [(37, 44), (38, 45), (39, 46), (40, 47), (41, 48), (42, 49), (43, 50)] (fuel := 23) ?_
 simp only [List.foldl_cons, List.foldl_nil, List.setIfInBounds_toArray, List.set_cons_zero, List.set_cons_succ]
 iterate 2 (refine tx 44 _ ?_; try simp only [Act.put, ka, kb, kc])
 refine skips [(46, 53), (47, 54), (48, 55)] (fuel := 18) ?_
 simp only [List.foldl_cons, List.foldl_nil, List.setIfInBounds_toArray, List.set_cons_zero, List.set_cons_succ]
 iterate 2 (refine tx 49 _ ?_; try simp only [Act.put, ka, kb, kc])
 refine skips [(51, 58), (52, 59), (53, 60)] (fuel := 13) ?_
 simp only [List.foldl_cons, List.foldl_nil, List.setIfInBounds_toArray, List.set_cons_zero, List.set_cons_succ]
 iterate 2 (refine tx 54 _ ?_; try simp only [Act.put, ka, kb, kc])
 refine skips [(56, 63), (57, 64), (58, 65)] (fuel := 8) ?_
 simp only [List.foldl_cons, List.foldl_nil, List.setIfInBounds_toArray, List.set_cons_zero, List.set_cons_succ]
 iterate 2 (refine tx 59 _ ?_; try simp only [Act.put, ka, kb, kc])
 refine skips [(61, 68), (62, 69), (63, 70), (64, 71)] (fuel := 2) ?_
 simp only [List.foldl_cons, List.foldl_nil, List.setIfInBounds_toArray, List.set_cons_zero, List.set_cons_succ]
 iterate 2 (refine tx 65 _ ?_; try simp only [Act.put, ka, kb, kc])
 refine wpAnyH_done (by kernel_rfl) ?_ _
 simp only [Exit.then]
 refine (‹∀ (a : Act) (w : World), Code.wp _ Code.ret _ a w → _›) _ _ (wp_ret ?_)
 first | (show bodyPost _ _ _ Exit.ret _ _) | (simp only [Exit.then]; show bodyPost _ _ _ Exit.ret _ _) | (simp only [Exit.then, Exit.inBlock]; show bodyPost _ _ _ Exit.ret _ _)
 refine bodyPost_ret (v := .bool false) (by simp [results, Tryz.results13, go_sem]) rfl ?_
 rw [hF.out]
 exact ⟨rfl, HB⟩
theorem may_6 (c : CoL) (A : Option Addr) (n p : Nat) (w : World) (B : Nat) (hR : RdE w B A n c.lg.es) (hB : B ≤ w.heap.size) (hp : n ≤ p) (hn : n ≤ 1000000) (hj : c.lg.j.ok) (hok : ∀ x ∈ c.lg.es, x.j.ok) (e0 : (nodeB c.id) = true) (e1 : (upB c.ro 2) = true) (e2 : (upB c.tm 1099511627776) = true) (e3 : (upB c.vo 9) = true) (e4 : (upB c.le 9) = true) (e5 : (mayG c.lg) = true) (e6 : (decide ((termF c.lg (lastF c.lg)).1 ≤ c.tm)) = false) : Calls Tryz.prog 13 #[crV c (.slice A n p)] w fun e w' => e = .returned (.bool (mayK c)) ∧ Below w.heap.size w w' := by
 have HOk := Lh hok
 have HJ := Lh hj
 have hn2 := Lh hn
 have hlen := Lh hR.len
 have hF : Hid (mayK c = false) := Lh (by rw [mayK_form, e0, e1, e2, e3, e4, e5, e6]; rfl)
 have h0 := Lh e0
 have h1 := Lh e1
 have h2 := Lh e2
 have h3 := Lh e3
 have h4 := Lh e4
 have h5 := Lh e5
 have h6 := Lh e6
 have hFit := Lh (fit_mayG hR.len hn e5)
 obtain ⟨lw, hlw⟩ : ∃ q, IntKind.i64.wrap (c.lg.b + (n : Int)) = q := ⟨_, rfl⟩
 obtain ⟨tv, htv⟩ : ∃ q, (termF c.lg (lastF c.lg)).1 = q := ⟨_, rfl⟩
 clear hok hj hn e0 e1 e2 e3 e4 e5 e6
 replace hlw := Lh hlw
 replace htv := Lh htv
 have R0 := hR.more hB
 clear hR hB
 go_enter Tryz.func13, Tryz.ntmps13
 go_wp2_with (first | go_skip | refine box_C rfl _ rfl c (.slice A n p) rfl ?_ | fail)
 intro y1 kC e1 s1
 clear s1
 have HB := e1
 replace R0 := R0.on e1 e1.size
 clear e1
 go_wp2_with (first | go_skip | refine lo_Cj kC ?_ | refine lo_cLj kC ?_ | refine lo_cJj kC ?_)
 have CC := last_all c.lg A n p y1
 rw [hlw.out] at CC
 refine (CC).mono ?_
 rintro e y2 ⟨rfl, hY⟩
 replace HB := bt HB hY
 replace kC := kC.b hY
 replace R0 := R0.on hY hY.size
 clear hY
 clear CC
 go_upto_region 2 with (first | go_skip | refine lo_Cj kC ?_ | refine lo_cLj kC ?_ | refine lo_cJj kC ?_)
 simp only [List.append_eq, List.cons_append, List.nil_append]
 refine wp_region_held_drew (S := fun wq => At wq w.heap.size 8 (lgC c.lg (.slice A n p)) ∧ At wq w.heap.size 25 (a10C c.nx) ∧ At wq w.heap.size 35 (a10C c.mt) ∧ wq.cell? ⟨w.heap.size, 0, none⟩ = some (.int .i64 c.id) ∧ wq.cell? ⟨w.heap.size, 1, none⟩ = some (.int .i64 c.ro) ∧ wq.cell? ⟨w.heap.size, 2, none⟩ = some (.int .i64 c.tm) ∧ wq.cell? ⟨w.heap.size, 3, none⟩ = some (.int .i64 c.vo) ∧ wq.cell? ⟨w.heap.size, 4, none⟩ = some (.int .i64 c.le) ∧ wq.cell? ⟨w.heap.size, 5, none⟩ = some (.int .i64 c.wa) ∧ wq.cell? ⟨w.heap.size, 6, none⟩ = some (.int .i64 c.cm) ∧ wq.cell? ⟨w.heap.size, 7, none⟩ = some (.int .i64 c.sf) ∧ wq.cell? ⟨w.heap.size, 8, none⟩ = some (.int .i64 c.lg.b)) (by kernel_rfl) ?s_may2_6 (fun hHeld => ?_)
 case s_may2_6 => exact ⟨at_cL kC, at_cN kC, at_cT kC, kC.cell 0, kC.cell 1, kC.cell 2, kC.cell 3, kC.cell 4, kC.cell 5, kC.cell 6, kC.cell 7, kC.cell 8⟩
 have hD := (Below.refl y2.heap.size y2).drew
 replace HB := bt HB hD
 replace kC := kC.b hD
 replace R0 := R0.on hD hD.size
 clear hD
 generalize y2.drew = y3 at *
 iterate 2 (refine tx 0 _ ?_; try simp only [Act.put, ka, kb, kc])
 refine rr [2] ?_
 refine rc (fun KQ hKQ => ?_) AllReadyH.nil
 go_simp
 have CC := isnode_any c.id y3
 rw [h0.out] at CC
 refine (CC).mono ?_
 rintro e y4 ⟨rfl, hW⟩
 subst hW
 clear CC
 go_wp2_with fail
 refine hKQ.out _ _ (⟨at_cL kC, at_cN kC, at_cT kC, kC.cell 0, kC.cell 1, kC.cell 2, kC.cell 3, kC.cell 4, kC.cell 5, kC.cell 6, kC.cell 7, kC.cell 8⟩) (fun _ => ?_)
 clear hKQ KQ
 try simp only [Act.put, ka, kb, kc]
 iterate 3 (refine tx 3 _ ?_; try simp only [Act.put, ka, kb, kc])
 refine rr [6] ?_
 refine rc (fun KQ hKQ => ?_) AllReadyH.nil
 go_simp
 have CC := within_any c.ro 0 2 y3
 rw [wi_up, h1.out] at CC
 refine (CC).mono ?_
 rintro e y5 ⟨rfl, hW⟩
 subst hW
 clear CC
 go_wp2_with fail
 refine hKQ.out _ _ (⟨at_cL kC, at_cN kC, at_cT kC, kC.cell 0, kC.cell 1, kC.cell 2, kC.cell 3, kC.cell 4, kC.cell 5, kC.cell 6, kC.cell 7, kC.cell 8⟩) (fun _ => ?_)
 clear hKQ KQ
 try simp only [Act.put, ka, kb, kc]
 iterate 4 (refine tx 7 _ ?_; try simp only [Act.put, ka, kb, kc])
 refine rr [11] ?_
 refine rc (fun KQ hKQ => ?_) AllReadyH.nil
 go_simp
 have CC := within_any c.tm 0 1099511627776 y3
 rw [wi_up, h2.out] at CC
 refine (CC).mono ?_
 rintro e y6 ⟨rfl, hW⟩
 subst hW
 clear CC
 go_wp2_with fail
 refine hKQ.out _ _ (⟨at_cL kC, at_cN kC, at_cT kC, kC.cell 0, kC.cell 1, kC.cell 2, kC.cell 3, kC.cell 4, kC.cell 5, kC.cell 6, kC.cell 7, kC.cell 8⟩) (fun _ => ?_)
 clear hKQ KQ
 try simp only [Act.put, ka, kb, kc]
 iterate 4 (refine tx 12 _ ?_; try simp only [Act.put, ka, kb, kc])
 refine rr [16] ?_
 refine rc (fun KQ hKQ => ?_) AllReadyH.nil
 go_simp
 have CC := within_any c.vo 0 9 y3
 rw [wi_up, h3.out] at CC
 refine (CC).mono ?_
 rintro e y7 ⟨rfl, hW⟩
 subst hW
 clear CC
 go_wp2_with fail
 refine hKQ.out _ _ (⟨at_cL kC, at_cN kC, at_cT kC, kC.cell 0, kC.cell 1, kC.cell 2, kC.cell 3, kC.cell 4, kC.cell 5, kC.cell 6, kC.cell 7, kC.cell 8⟩) (fun _ => ?_)
 clear hKQ KQ
 try simp only [Act.put, ka, kb, kc]
 iterate 4 (refine tx 17 _ ?_; try simp only [Act.put, ka, kb, kc])
 refine rr [21] ?_
 refine rc (fun KQ hKQ => ?_) AllReadyH.nil
 go_simp
 have CC := within_any c.le 0 9 y3
 rw [wi_up, h4.out] at CC
 refine (CC).mono ?_
 rintro e y8 ⟨rfl, hW⟩
 subst hW
 clear CC
 go_wp2_with fail
 refine hKQ.out _ _ (⟨at_cL kC, at_cN kC, at_cT kC, kC.cell 0, kC.cell 1, kC.cell 2, kC.cell 3, kC.cell 4, kC.cell 5, kC.cell 6, kC.cell 7, kC.cell 8⟩) (fun _ => ?_)
 clear hKQ KQ
 try simp only [Act.put, ka, kb, kc]
 iterate 3 (refine tx 22 _ ?_; try simp only [Act.put, ka, kb, kc])
 refine tj 25 ((lgV c.lg (.slice A n p))) ?_ (hy := fun wq hSw => run_ldAt rfl rfl hSw.1 (aggL _) (sizeL _))
 try simp only [Act.put, ka, kb, kc]
 refine rr [26] ?_
 refine rc (fun KQ hKQ => ?_) AllReadyH.nil
 go_simp
 have CC := mayLog_any c.lg A n p y3 y3.heap.size R0 (Nat.le_refl _) (by have := hn2.out; omega) HJ.out HOk.out
 rw [h5.out] at CC
 refine (CC).mono ?_
 rintro e y9 ⟨rfl, hY⟩
 replace HB := bt HB hY
 replace kC := kC.b hY
 replace R0 := R0.on hY hY.size
 clear hY
 clear CC
 go_wp2_with fail
 refine hKQ.out _ _ (⟨at_cL kC, at_cN kC, at_cT kC, kC.cell 0, kC.cell 1, kC.cell 2, kC.cell 3, kC.cell 4, kC.cell 5, kC.cell 6, kC.cell 7, kC.cell 8⟩) (fun _ => ?_)
 clear hKQ KQ
 try simp only [Act.put, ka, kb, kc]
 iterate 3 (refine tx 27 _ ?_; try simp only [Act.put, ka, kb, kc])
 refine tj 30 ((lgV c.lg (.slice A n p))) ?_ (hy := fun wq hSw => run_ldAt rfl rfl hSw.1 (aggL _) (sizeL _))
 try simp only [Act.put, ka, kb, kc]
 iterate 2 (refine tx 32 _ ?_; try simp only [Act.put, ka, kb, kc])
 refine rr [31] ?_
 refine rc (fun KQ hKQ => ?_) AllReadyH.nil
 go_simp
 have CC := lastTerm_any c.lg A n p y9 y9.heap.size R0 (Nat.le_refl _) hp hFit.out
 rw [htv.out] at CC
 refine (CC).mono ?_
 rintro e y10 ⟨rfl, hY⟩
 replace HB := bt HB hY
 replace kC := kC.b hY
 replace R0 := R0.on hY hY.size
 clear hY
 clear CC
 go_wp2_with fail
 refine hKQ.out _ _ (⟨at_cL kC, at_cN kC, at_cT kC, kC.cell 0, kC.cell 1, kC.cell 2, kC.cell 3, kC.cell 4, kC.cell 5, kC.cell 6, kC.cell 7, kC.cell 8⟩) (fun _ => ?_)
 clear hKQ KQ
 try simp only [Act.put, ka, kb, kc]
 refine tj 34 ((.bool false)) ?_ (hy := fun wq hSw => rb_leq rfl rfl rfl (by have := h6.out; rw [htv.out] at this; exact this))
 try simp only [Act.put, ka, kb, kc]
 iterate 2 (refine tx 35 _ ?_; try simp only [Act.put, ka, kb, kc])
 refine skips [(37, 44), (38, 45), (39, 46), (40, 47), (41, 48), (42, 49), (43, 50)] (fuel := 23) ?_
 simp only [List.foldl_cons, List.foldl_nil, List.setIfInBounds_toArray, List.set_cons_zero, List.set_cons_succ]
 iterate 2 (refine tx 44 _ ?_; try simp only [Act.put, ka, kb, kc])
 refine skips [(46, 53), (47, 54), (48, 55)] (fuel := 18) ?_
 simp only [List.foldl_cons, List.foldl_nil, List.setIfInBounds_toArray, List.set_cons_zero, List.set_cons_succ]
 iterate 2 (refine tx 49 _ ?_; try simp only [Act.put, ka, kb, kc])
 refine skips [(51, 58), (52, 59), (53, 60)] (fuel := 13) ?_
 simp only [List.foldl_cons, List.foldl_nil, List.setIfInBounds_toArray, List.set_cons_zero, List.set_cons_succ]
 iterate 2 (refine tx 54 _ ?_; try simp only [Act.put, ka, kb, kc])
 refine skips [(56, 63), (57, 64), (58, 65)] (fuel := 8) ?_
 simp only [List.foldl_cons, List.foldl_nil, List.setIfInBounds_toArray, List.set_cons_zero, List.set_cons_succ]
 iterate 2 (refine tx 59 _ ?_; try simp only [Act.put, ka, kb, kc])
 refine skips [(61, 68), (62, 69), (63, 70), (64, 71)] (fuel := 2) ?_
 simp only [List.foldl_cons, List.foldl_nil, List.setIfInBounds_toArray, List.set_cons_zero, List.set_cons_succ]
 iterate 2 (refine tx 65 _ ?_; try simp only [Act.put, ka, kb, kc])
 refine wpAnyH_done (by kernel_rfl) ?_ _
 simp only [Exit.then]
 refine (‹∀ (a : Act) (w : World), Code.wp _ Code.ret _ a w → _›) _ _ (wp_ret ?_)
 first | (show bodyPost _ _ _ Exit.ret _ _) | (simp only [Exit.then]; show bodyPost _ _ _ Exit.ret _ _) | (simp only [Exit.then, Exit.inBlock]; show bodyPost _ _ _ Exit.ret _ _)
 refine bodyPost_ret (v := .bool false) (by simp [results, Tryz.results13, go_sem]) rfl ?_
 rw [hF.out]
 exact ⟨rfl, HB⟩
end Go.Proofs.YtegnfkbmlalkeaaGreat.cor
