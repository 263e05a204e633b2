/- The document's May. Conditions: those that the theorem names. -/
import Derived.Deep.RegionHeld3
import Derived.Deep.Cut
import Derived.Lib.Hide
import Derived.Test.YtegnfkbmlalkeaaGreatSpKitCl
import Derived.Test.YtegnfkbmlalkeaaGreatSpJ4
import Derived.Test.YtegnfkbmlalkeaaGreatSpJ3
import Derived.Test.YtegnfkbmlalkeaaGreatSpJ0
import Derived.Test.YtegnfkbmlalkeaaGreatSpRefE12
import Derived.Test.YtegnfkbmlalkeaaGreatSpJ2
import Derived.Test.YtegnfkbmlalkeaaGreatSpJ5
import Derived.Test.YtegnfkbmlalkeaaGreatSpKitLg
set_option linter.unusedVariables false
set_option maxHeartbeats 16000000
set_option maxRecDepth 10000
namespace Go.Proofs.YtegnfkbmlalkeaaGreat.cor
open Go Go.RowKit kit nums cf lg cr se
theorem mayK_all {c : CoL} (h : mayK c = true) : (1 ≤ c.id ∧ c.id ≤ 9) ∧ (0 ≤ c.ro ∧ c.ro ≤ 2) ∧ (0 ≤ c.tm ∧ c.tm ≤ 1099511627776) ∧ (0 ≤ c.vo ∧ c.vo ≤ 9) ∧ (0 ≤ c.le ∧ c.le ≤ 9) ∧ mayG c.lg = true ∧ (termF c.lg (lastF c.lg)).1 ≤ c.tm ∧ (c.lg.b ≤ c.cm ∧ c.cm ≤ lastF c.lg) ∧ (0 ≤ c.wa ∧ c.wa ≤ 1099511627776) ∧ (0 ≤ c.sf ∧ c.sf ≤ 1099511627776) ∧ ∀ k : Nat, k < 10 → (0 ≤ c.nx k ∧ c.nx k ≤ 2199023255552) ∧ (0 ≤ c.mt k ∧ c.mt k ≤ lastF c.lg) := by
 simp only [mayK, nodeB, Bool.and_eq_true, upB_iff, decide_eq_true_eq, List.all_eq_true, List.mem_range] at h
 exact h
theorem mayK_mk {c : CoL} (h : (1 ≤ c.id ∧ c.id ≤ 9) ∧ (0 ≤ c.ro ∧ c.ro ≤ 2) ∧ (0 ≤ c.tm ∧ c.tm ≤ 1099511627776) ∧ (0 ≤ c.vo ∧ c.vo ≤ 9) ∧ (0 ≤ c.le ∧ c.le ≤ 9) ∧ mayG c.lg = true ∧ (termF c.lg (lastF c.lg)).1 ≤ c.tm ∧ (c.lg.b ≤ c.cm ∧ c.cm ≤ lastF c.lg) ∧ (0 ≤ c.wa ∧ c.wa ≤ 1099511627776) ∧ (0 ≤ c.sf ∧ c.sf ≤ 1099511627776) ∧ ∀ k : Nat, k < 10 → (0 ≤ c.nx k ∧ c.nx k ≤ 2199023255552) ∧ (0 ≤ c.mt k ∧ c.mt k ≤ lastF c.lg)) : mayK c = true := by
 simp only [mayK, nodeB, Bool.and_eq_true, upB_iff, decide_eq_true_eq, List.all_eq_true, List.mem_range]
 exact h
theorem rmay_any (c : CoL) (A : Option Addr) (n p : Nat) (w : World) (B : Nat) (hR : RdE w B A n c.lg.es) (hB : B ≤ w.heap.size) (hp : n ≤ p) (hn : n ≤ 1000000) (hj : c.lg.j.ok) (hok : ∀ x ∈ c.lg.es, x.j.ok) : Calls Tryz.prog 14 #[crV c (.slice A n p)] w fun e w' => e = .returned (.bool (mayK c)) ∧ Below w.heap.size w w' := by
 have HOk := Lh hok
 have HJ := Lh hj
 have hn2 := Lh hn
 have hlen := Lh hR.len
 have hA := Lh (fun e => mayK_all (c := c) e)
 have hM := Lh (fun e => mayK_mk (c := c) e)
 obtain ⟨id, hid⟩ : ∃ q, c.id = q := ⟨_, rfl⟩
 obtain ⟨ro, hro⟩ : ∃ q, c.ro = q := ⟨_, rfl⟩
 obtain ⟨tm, htm⟩ : ∃ q, c.tm = q := ⟨_, rfl⟩
 obtain ⟨vo, hvo⟩ : ∃ q, c.vo = q := ⟨_, rfl⟩
 obtain ⟨le, hle⟩ : ∃ q, c.le = q := ⟨_, rfl⟩
 obtain ⟨wa, hwa⟩ : ∃ q, c.wa = q := ⟨_, rfl⟩
 obtain ⟨cm, hcm⟩ : ∃ q, c.cm = q := ⟨_, rfl⟩
 obtain ⟨sf, hsf⟩ : ∃ q, c.sf = q := ⟨_, rfl⟩
 obtain ⟨b, hb⟩ : ∃ q, c.lg.b = q := ⟨_, rfl⟩
 obtain ⟨mg, hmg⟩ : ∃ q, mayG c.lg = q := ⟨_, rfl⟩
 obtain ⟨la, hla⟩ : ∃ q, lastF c.lg = q := ⟨_, rfl⟩
 obtain ⟨tl, htl⟩ : ∃ q, (termF c.lg (lastF c.lg)).1 = q := ⟨_, rfl⟩
 have hFit : Hid (mg = true → Fit c.lg) := fun e => by
  have h : mayG c.lg = true := hmg.trans e
  unfold mayG at h
  rw [Bool.and_eq_true] at h
  exact fit_may h.1 (by rw [hR.len]; omega)
 rw [hmg, htl, hla, hid, hro, htm, hvo, hle, hwa, hcm, hsf, hb] at hA hM
 clear hok hj hn
 replace hid := Lh hid
 replace hro := Lh hro
 replace htm := Lh htm
 replace hvo := Lh hvo
 replace hle := Lh hle
 replace hwa := Lh hwa
 replace hcm := Lh hcm
 replace hsf := Lh hsf
 replace hb := Lh hb
 replace hmg := Lh hmg
 replace hla := Lh hla
 replace htl := Lh htl
 have R0 := hR.more hB
 clear hR hB
 go_enter Tryz.func14, Tryz.ntmps14
 go_wp2_with (first | go_skip | refine box_C rfl _ rfl c (.slice A n p) rfl ?_ | fail)
 intro y1 kC e1 s1
 clear s1
 have HB := e1
 replace R0 := R0.on e1 e1.size
 clear e1
 have c_id : y1.cell? ⟨w.heap.size, 0, none⟩ = some (.int .i64 id) := by rw [← hid.out]; exact kC.cell 0
 have c_ro : y1.cell? ⟨w.heap.size, 1, none⟩ = some (.int .i64 ro) := by rw [← hro.out]; exact kC.cell 1
 have c_tm : y1.cell? ⟨w.heap.size, 2, none⟩ = some (.int .i64 tm) := by rw [← htm.out]; exact kC.cell 2
 have c_vo : y1.cell? ⟨w.heap.size, 3, none⟩ = some (.int .i64 vo) := by rw [← hvo.out]; exact kC.cell 3
 have c_le : y1.cell? ⟨w.heap.size, 4, none⟩ = some (.int .i64 le) := by rw [← hle.out]; exact kC.cell 4
 by_cases t1 : id < 1
 ·
  have t1h := Lh t1
  have hE : Hid (mayK c = false) := Bool.eq_false_iff.2 (fun e => by have h := hA.out e; have := t1h.out; omega)
  go_wp2_with go_skip
  go_ret
  rw [hE.out]
  exact ⟨rfl, HB⟩
 have t_idl := t1
 clear t1
 by_cases t1 : id > 9
 ·
  have t1h := Lh t1
  have hE : Hid (mayK c = false) := Bool.eq_false_iff.2 (fun e => by have h := hA.out e; have := t1h.out; omega)
  go_wp2_with go_skip
  go_ret
  rw [hE.out]
  exact ⟨rfl, HB⟩
 have t_idg := t1
 clear t1
 by_cases t1 : ro < 0
 ·
  have t1h := Lh t1
  have hE : Hid (mayK c = false) := Bool.eq_false_iff.2 (fun e => by have h := hA.out e; have := t1h.out; omega)
  go_wp2_with go_skip
  go_ret
  rw [hE.out]
  exact ⟨rfl, HB⟩
 have t_rol := t1
 clear t1
 by_cases t1 : ro > 2
 ·
  have t1h := Lh t1
  have hE : Hid (mayK c = false) := Bool.eq_false_iff.2 (fun e => by have h := hA.out e; have := t1h.out; omega)
  go_wp2_with go_skip
  go_ret
  rw [hE.out]
  exact ⟨rfl, HB⟩
 have t_rog := t1
 clear t1
 by_cases t1 : tm < 0
 ·
  have t1h := Lh t1
  have hE : Hid (mayK c = false) := Bool.eq_false_iff.2 (fun e => by have h := hA.out e; have := t1h.out; omega)
  go_wp2_with go_skip
  go_ret
  rw [hE.out]
  exact ⟨rfl, HB⟩
 have t_tml := t1
 clear t1
 by_cases t1 : tm > 1099511627776
 ·
  have t1h := Lh t1
  have hE : Hid (mayK c = false) := Bool.eq_false_iff.2 (fun e => by have h := hA.out e; have := t1h.out; omega)
  go_wp2_with go_skip
  go_ret
  rw [hE.out]
  exact ⟨rfl, HB⟩
 have t_tmg := t1
 clear t1
 by_cases t1 : vo < 0
 ·
  have t1h := Lh t1
  have hE : Hid (mayK c = false) := Bool.eq_false_iff.2 (fun e => by have h := hA.out e; have := t1h.out; omega)
  go_wp2_with go_skip
  go_ret
  rw [hE.out]
  exact ⟨rfl, HB⟩
 have t_vol := t1
 clear t1
 by_cases t1 : vo > 9
 ·
  have t1h := Lh t1
  have hE : Hid (mayK c = false) := Bool.eq_false_iff.2 (fun e => by have h := hA.out e; have := t1h.out; omega)
  go_wp2_with go_skip
  go_ret
  rw [hE.out]
  exact ⟨rfl, HB⟩
 have t_vog := t1
 clear t1
 by_cases t1 : le < 0
 ·
  have t1h := Lh t1
  have hE : Hid (mayK c = false) := Bool.eq_false_iff.2 (fun e => by have h := hA.out e; have := t1h.out; omega)
  go_wp2_with go_skip
  go_ret
  rw [hE.out]
  exact ⟨rfl, HB⟩
 have t_lel := t1
 clear t1
 by_cases t1 : le > 9
 ·
  have t1h := Lh t1
  have hE : Hid (mayK c = false) := Bool.eq_false_iff.2 (fun e => by have h := hA.out e; have := t1h.out; omega)
  go_wp2_with go_skip
  go_ret
  rw [hE.out]
  exact ⟨rfl, HB⟩
 have t_leg := t1
 clear t1
 have ut_idl := Lh t_idl
 have ut_idg := Lh t_idg
 have ut_rol := Lh t_rol
 have ut_rog := Lh t_rog
 have ut_tml := Lh t_tml
 have ut_tmg := Lh t_tmg
 have ut_vol := Lh t_vol
 have ut_vog := Lh t_vog
 have ut_lel := Lh t_lel
 have ut_leg := Lh t_leg
 go_wp2_with (first | go_skip | refine lo_Cj kC ?_ | refine lo_cLj kC ?_ | refine lo_cJj kC ?_)
 clear t_idl t_idg t_rol t_rog t_tml t_tmg t_vol t_vog t_lel t_leg
 have CC := ref13.maylog_any c.lg A n p y1 y1.heap.size R0 (Nat.le_refl _) (by have := hn2.out; omega) HJ.out HOk.out
 rw [hmg.out] at CC
 refine (CC).mono ?_
 rintro e y2 ⟨rfl, hY⟩
 replace HB := bt HB hY
 replace kC := kC.b hY
 replace R0 := R0.on hY hY.size
 clear hY
 clear CC c_id c_ro c_tm c_vo c_le
 rcases mg with _ | _
 ·
  have hE : Hid (mayK c = false) := Bool.eq_false_iff.2 (fun e => by have h := (hA.out e).2.2.2.2.2.1; first | exact absurd h (by decide) | simp at h)
  go_wp2_with go_skip
  go_ret
  rw [hE.out]
  exact ⟨rfl, HB⟩
 have HF := Lh (hFit.out (by first | rfl | trivial))
 go_wp2_with (first | go_skip | refine lo_Cj kC ?_ | refine lo_cLj kC ?_ | refine lo_cJj kC ?_)
 have CC := ref12.rlast_any c.lg A n p y2 hlen.out HF.out
 rw [hla.out] at CC
 refine (CC).mono ?_
 rintro e y3 ⟨rfl, hY⟩
 replace HB := bt HB hY
 replace kC := kC.b hY
 replace R0 := R0.on hY hY.size
 clear hY
 clear CC
 go_upto_region 4 with (first | go_skip | refine lo_Cj kC ?_ | refine lo_cLj kC ?_ | refine lo_cJj kC ?_)
 by_cases t1 : tl > tm
 ·
  have v0 := Lh t1
  clear t1
  refine wp_region_held_drew (S := fun wq => At wq w.heap.size 8 (lgC c.lg (.slice A n p)) ∧ wq.cell? ⟨w.heap.size, 2, none⟩ = some (.int .i64 tm) ∧ wq.cell? ⟨w.heap.size, 5, none⟩ = some (.int .i64 wa) ∧ wq.cell? ⟨w.heap.size, 6, none⟩ = some (.int .i64 cm) ∧ wq.cell? ⟨w.heap.size, 7, none⟩ = some (.int .i64 sf) ∧ wq.cell? ⟨w.heap.size, 8, none⟩ = some (.int .i64 b)) (by kernel_rfl) ?s_rmy4_0 (fun hHeld => ?_)
  case s_rmy4_0 => exact ⟨at_cL kC, by rw [← htm.out]; exact kC.cell 2, by rw [← hwa.out]; exact kC.cell 5, by rw [← hcm.out]; exact kC.cell 6, by rw [← hsf.out]; exact kC.cell 7, by rw [← hb.out]; exact kC.cell 8⟩
  have hD := (Below.refl y3.heap.size y3).drew
  replace HB := bt HB hD
  replace kC := kC.b hD
  replace R0 := R0.on hD hD.size
  clear hD
  generalize y3.drew = y4 at *
  refine tj 0 _ ?_
  try simp only [Act.put, ka, kb, kc]
  refine tj 1 ((lgV c.lg (.slice A n p))) ?_ (hy := fun wq hSw => run_ldAt rfl rfl hSw.1 (aggL _) (sizeL _))
  try simp only [Act.put, ka, kb, kc]
  iterate 2 (refine tx 3 _ ?_; try simp only [Act.put, ka, kb, kc])
  refine rr [2] ?_
  refine rc (fun KQ hKQ => ?_) AllReadyH.nil
  go_simp
  have CC := ref12.rlt_any c.lg A n p y4 y4.heap.size R0 (Nat.le_refl _) hp HF.out
  rw [htl.out] at CC
  refine (CC).mono ?_
  rintro e y5 ⟨rfl, hY⟩
  replace HB := bt HB hY
  replace kC := kC.b hY
  replace R0 := R0.on hY hY.size
  clear hY
  clear CC
  go_wp2_with fail
  refine hKQ.out _ _ (⟨at_cL kC, by rw [← htm.out]; exact kC.cell 2, by rw [← hwa.out]; exact kC.cell 5, by rw [← hcm.out]; exact kC.cell 6, by rw [← hsf.out]; exact kC.cell 7, by rw [← hb.out]; exact kC.cell 8⟩) (fun _ => ?_)
  clear hKQ KQ
  try simp only [Act.put, ka, kb, kc]
  refine tj 5 ((.bool true)) ?_ (hy := fun wq hSw => rb_gtr rfl rfl rfl (decide_eq_true (by have := v0.out; omega)))
  try simp only [Act.put, ka, kb, kc]
  refine tj 6 _ ?_
  try simp only [Act.put, ka, kb, kc]
  refine tv 7 ?_
  try simp only [Act.put, ka, kb, kc]
  refine tv 8 ?_
  try simp only [Act.put, ka, kb, kc]
  refine tv 9 ?_
  try simp only [Act.put, ka, kb, kc]
  refine tv 10 ?_
  try simp only [Act.put, ka, kb, kc]
  refine tv 11 ?_
  try simp only [Act.put, ka, kb, kc]
  refine tv 12 ?_
  try simp only [Act.put, ka, kb, kc]
  iterate 2 (refine tx 13 _ ?_; try simp only [Act.put, ka, kb, kc])
  refine tv 15 ?_
  try simp only [Act.put, ka, kb, kc]
  refine tv 16 ?_
  try simp only [Act.put, ka, kb, kc]
  refine tv 17 ?_
  try simp only [Act.put, ka, kb, kc]
  refine tv 18 ?_
  try simp only [Act.put, ka, kb, kc]
  iterate 2 (refine tx 19 _ ?_; try simp only [Act.put, ka, kb, kc])
  refine tv 21 ?_
  try simp only [Act.put, ka, kb, kc]
  refine tv 22 ?_
  try simp only [Act.put, ka, kb, kc]
  refine tv 23 ?_
  try simp only [Act.put, ka, kb, kc]
  iterate 2 (refine tx 24 _ ?_; try simp only [Act.put, ka, kb, kc])
  refine tv 26 ?_
  try simp only [Act.put, ka, kb, kc]
  refine tv 27 ?_
  try simp only [Act.put, ka, kb, kc]
  refine tv 28 ?_
  try simp only [Act.put, ka, kb, kc]
  iterate 2 (refine tx 29 _ ?_; try simp only [Act.put, ka, kb, kc])
  refine tv 31 ?_
  try simp only [Act.put, ka, kb, kc]
  refine tv 32 ?_
  try simp only [Act.put, ka, kb, kc]
  refine tv 33 ?_
  try simp only [Act.put, ka, kb, kc]
  iterate 2 (refine tx 34 _ ?_; try simp only [Act.put, ka, kb, kc])
  refine tv 36 ?_
  try simp only [Act.put, ka, kb, kc]
  refine tv 37 ?_
  try simp only [Act.put, ka, kb, kc]
  refine tv 38 ?_
  try simp only [Act.put, ka, kb, kc]
  refine tj 39 _ ?_
  try simp only [Act.put, ka, kb, kc]
  refine wpAnyH_done (by kernel_rfl) ?_ _
  have hE : Hid (mayK c = false) := Bool.eq_false_iff.2 (fun e => by have h := hA.out e; have := v0.out; omega)
  go_wp2_with go_skip
  go_ret
  rw [hE.out]
  exact ⟨rfl, HB⟩
 have v0 := Lh t1
 clear t1
 by_cases t1 : cm < b
 ·
  have v1 := Lh t1
  clear t1
  refine wp_region_held_drew (S := fun wq => At wq w.heap.size 8 (lgC c.lg (.slice A n p)) ∧ wq.cell? ⟨w.heap.size, 2, none⟩ = some (.int .i64 tm) ∧ wq.cell? ⟨w.heap.size, 5, none⟩ = some (.int .i64 wa) ∧ wq.cell? ⟨w.heap.size, 6, none⟩ = some (.int .i64 cm) ∧ wq.cell? ⟨w.heap.size, 7, none⟩ = some (.int .i64 sf) ∧ wq.cell? ⟨w.heap.size, 8, none⟩ = some (.int .i64 b)) (by kernel_rfl) ?s_rmy4_1 (fun hHeld => ?_)
  case s_rmy4_1 => exact ⟨at_cL kC, by rw [← htm.out]; exact kC.cell 2, by rw [← hwa.out]; exact kC.cell 5, by rw [← hcm.out]; exact kC.cell 6, by rw [← hsf.out]; exact kC.cell 7, by rw [← hb.out]; exact kC.cell 8⟩
  have hD := (Below.refl y3.heap.size y3).drew
  replace HB := bt HB hD
  replace kC := kC.b hD
  replace R0 := R0.on hD hD.size
  clear hD
  generalize y3.drew = y4 at *
  refine tj 0 _ ?_
  try simp only [Act.put, ka, kb, kc]
  refine tj 1 ((lgV c.lg (.slice A n p))) ?_ (hy := fun wq hSw => run_ldAt rfl rfl hSw.1 (aggL _) (sizeL _))
  try simp only [Act.put, ka, kb, kc]
  iterate 2 (refine tx 3 _ ?_; try simp only [Act.put, ka, kb, kc])
  refine rr [2] ?_
  refine rc (fun KQ hKQ => ?_) AllReadyH.nil
  go_simp
  have CC := ref12.rlt_any c.lg A n p y4 y4.heap.size R0 (Nat.le_refl _) hp HF.out
  rw [htl.out] at CC
  refine (CC).mono ?_
  rintro e y5 ⟨rfl, hY⟩
  replace HB := bt HB hY
  replace kC := kC.b hY
  replace R0 := R0.on hY hY.size
  clear hY
  clear CC
  go_wp2_with fail
  refine hKQ.out _ _ (⟨at_cL kC, by rw [← htm.out]; exact kC.cell 2, by rw [← hwa.out]; exact kC.cell 5, by rw [← hcm.out]; exact kC.cell 6, by rw [← hsf.out]; exact kC.cell 7, by rw [← hb.out]; exact kC.cell 8⟩) (fun _ => ?_)
  clear hKQ KQ
  try simp only [Act.put, ka, kb, kc]
  refine tj 5 ((.bool false)) ?_ (hy := fun wq hSw => rb_gtr rfl rfl rfl (decide_eq_false (by have := v0.out; omega)))
  try simp only [Act.put, ka, kb, kc]
  iterate 6 (refine tx 6 _ ?_; try simp only [Act.put, ka, kb, kc])
  refine tj 12 ((.bool true)) ?_ (hy := fun wq hSw => ref13.rb_lss rfl rfl rfl (decide_eq_true (by have := v1.out; omega)))
  try simp only [Act.put, ka, kb, kc]
  iterate 2 (refine tx 13 _ ?_; try simp only [Act.put, ka, kb, kc])
  refine tv 15 ?_
  try simp only [Act.put, ka, kb, kc]
  refine tv 16 ?_
  try simp only [Act.put, ka, kb, kc]
  refine tv 17 ?_
  try simp only [Act.put, ka, kb, kc]
  refine tv 18 ?_
  try simp only [Act.put, ka, kb, kc]
  iterate 2 (refine tx 19 _ ?_; try simp only [Act.put, ka, kb, kc])
  refine tv 21 ?_
  try simp only [Act.put, ka, kb, kc]
  refine tv 22 ?_
  try simp only [Act.put, ka, kb, kc]
  refine tv 23 ?_
  try simp only [Act.put, ka, kb, kc]
  iterate 2 (refine tx 24 _ ?_; try simp only [Act.put, ka, kb, kc])
  refine tv 26 ?_
  try simp only [Act.put, ka, kb, kc]
  refine tv 27 ?_
  try simp only [Act.put, ka, kb, kc]
  refine tv 28 ?_
  try simp only [Act.put, ka, kb, kc]
  iterate 2 (refine tx 29 _ ?_; try simp only [Act.put, ka, kb, kc])
  refine tv 31 ?_
  try simp only [Act.put, ka, kb, kc]
  refine tv 32 ?_
  try simp only [Act.put, ka, kb, kc]
  refine tv 33 ?_
  try simp only [Act.put, ka, kb, kc]
  iterate 2 (refine tx 34 _ ?_; try simp only [Act.put, ka, kb, kc])
  refine tv 36 ?_
  try simp only [Act.put, ka, kb, kc]
  refine tv 37 ?_
  try simp only [Act.put, ka, kb, kc]
  refine tv 38 ?_
  try simp only [Act.put, ka, kb, kc]
  refine tj 39 _ ?_
  try simp only [Act.put, ka, kb, kc]
  refine wpAnyH_done (by kernel_rfl) ?_ _
  have hE : Hid (mayK c = false) := Bool.eq_false_iff.2 (fun e => by have h := hA.out e; have := v1.out; omega)
  go_wp2_with go_skip
  go_ret
  rw [hE.out]
  exact ⟨rfl, HB⟩
 have v1 := Lh t1
 clear t1
 by_cases t1 : cm > la
 ·
  have v2 := Lh t1
  clear t1
  refine wp_region_held_drew (S := fun wq => At wq w.heap.size 8 (lgC c.lg (.slice A n p)) ∧ wq.cell? ⟨w.heap.size, 2, none⟩ = some (.int .i64 tm) ∧ wq.cell? ⟨w.heap.size, 5, none⟩ = some (.int .i64 wa) ∧ wq.cell? ⟨w.heap.size, 6, none⟩ = some (.int .i64 cm) ∧ wq.cell? ⟨w.heap.size, 7, none⟩ = some (.int .i64 sf) ∧ wq.cell? ⟨w.heap.size, 8, none⟩ = some (.int .i64 b)) (by kernel_rfl) ?s_rmy4_2 (fun hHeld => ?_)
  case s_rmy4_2 => exact ⟨at_cL kC, by rw [← htm.out]; exact kC.cell 2, by rw [← hwa.out]; exact kC.cell 5, by rw [← hcm.out]; exact kC.cell 6, by rw [← hsf.out]; exact kC.cell 7, by rw [← hb.out]; exact kC.cell 8⟩
  have hD := (Below.refl y3.heap.size y3).drew
  replace HB := bt HB hD
  replace kC := kC.b hD
  replace R0 := R0.on hD hD.size
  clear hD
  generalize y3.drew = y4 at *
  refine tj 0 _ ?_
  try simp only [Act.put, ka, kb, kc]
  refine tj 1 ((lgV c.lg (.slice A n p))) ?_ (hy := fun wq hSw => run_ldAt rfl rfl hSw.1 (aggL _) (sizeL _))
  try simp only [Act.put, ka, kb, kc]
  iterate 2 (refine tx 3 _ ?_; try simp only [Act.put, ka, kb, kc])
  refine rr [2] ?_
  refine rc (fun KQ hKQ => ?_) AllReadyH.nil
  go_simp
  have CC := ref12.rlt_any c.lg A n p y4 y4.heap.size R0 (Nat.le_refl _) hp HF.out
  rw [htl.out] at CC
  refine (CC).mono ?_
  rintro e y5 ⟨rfl, hY⟩
  replace HB := bt HB hY
  replace kC := kC.b hY
  replace R0 := R0.on hY hY.size
  clear hY
  clear CC
  go_wp2_with fail
  refine hKQ.out _ _ (⟨at_cL kC, by rw [← htm.out]; exact kC.cell 2, by rw [← hwa.out]; exact kC.cell 5, by rw [← hcm.out]; exact kC.cell 6, by rw [← hsf.out]; exact kC.cell 7, by rw [← hb.out]; exact kC.cell 8⟩) (fun _ => ?_)
  clear hKQ KQ
  try simp only [Act.put, ka, kb, kc]
  refine tj 5 ((.bool false)) ?_ (hy := fun wq hSw => rb_gtr rfl rfl rfl (decide_eq_false (by have := v0.out; omega)))
  try simp only [Act.put, ka, kb, kc]
  iterate 6 (refine tx 6 _ ?_; try simp only [Act.put, ka, kb, kc])
  refine tj 12 ((.bool false)) ?_ (hy := fun wq hSw => ref13.rb_lss rfl rfl rfl (decide_eq_false (by have := v1.out; omega)))
  try simp only [Act.put, ka, kb, kc]
  iterate 5 (refine tx 13 _ ?_; try simp only [Act.put, ka, kb, kc])
  refine tj 18 ((.bool true)) ?_ (hy := fun wq hSw => rb_gtr rfl rfl rfl (decide_eq_true (by have := v2.out; omega)))
  try simp only [Act.put, ka, kb, kc]
  iterate 2 (refine tx 19 _ ?_; try simp only [Act.put, ka, kb, kc])
  refine tv 21 ?_
  try simp only [Act.put, ka, kb, kc]
  refine tv 22 ?_
  try simp only [Act.put, ka, kb, kc]
  refine tv 23 ?_
  try simp only [Act.put, ka, kb, kc]
  iterate 2 (refine tx 24 _ ?_; try simp only [Act.put, ka, kb, kc])
  refine tv 26 ?_
  try simp only [Act.put, ka, kb, kc]
  refine tv 27 ?_
  try simp only [Act.put, ka, kb, kc]
  refine tv 28 ?_
  try simp only [Act.put, ka, kb, kc]
  iterate 2 (refine tx 29 _ ?_; try simp only [Act.put, ka, kb, kc])
  refine tv 31 ?_
  try simp only [Act.put, ka, kb, kc]
  refine tv 32 ?_
  try simp only [Act.put, ka, kb, kc]
  refine tv 33 ?_
  try simp only [Act.put, ka, kb, kc]
  iterate 2 (refine tx 34 _ ?_; try simp only [Act.put, ka, kb, kc])
  refine tv 36 ?_
  try simp only [Act.put, ka, kb, kc]
  refine tv 37 ?_
  try simp only [Act.put, ka, kb, kc]
  refine tv 38 ?_
  try simp only [Act.put, ka, kb, kc]
  refine tj 39 _ ?_
  try simp only [Act.put, ka, kb, kc]
  refine wpAnyH_done (by kernel_rfl) ?_ _
  have hE : Hid (mayK c = false) := Bool.eq_false_iff.2 (fun e => by have h := hA.out e; have := v2.out; omega)
  go_wp2_with go_skip
  go_ret
  rw [hE.out]
  exact ⟨rfl, HB⟩
 have v2 := Lh t1
 clear t1
 by_cases t1 : wa < 0
 ·
  have v3 := Lh t1
  clear t1
  refine wp_region_held_drew (S := fun wq => At wq w.heap.size 8 (lgC c.lg (.slice A n p)) ∧ wq.cell? ⟨w.heap.size, 2, none⟩ = some (.int .i64 tm) ∧ wq.cell? ⟨w.heap.size, 5, none⟩ = some (.int .i64 wa) ∧ wq.cell? ⟨w.heap.size, 6, none⟩ = some (.int .i64 cm) ∧ wq.cell? ⟨w.heap.size, 7, none⟩ = some (.int .i64 sf) ∧ wq.cell? ⟨w.heap.size, 8, none⟩ = some (.int .i64 b)) (by kernel_rfl) ?s_rmy4_3 (fun hHeld => ?_)
  case s_rmy4_3 => exact ⟨at_cL kC, by rw [← htm.out]; exact kC.cell 2, by rw [← hwa.out]; exact kC.cell 5, by rw [← hcm.out]; exact kC.cell 6, by rw [← hsf.out]; exact kC.cell 7, by rw [← hb.out]; exact kC.cell 8⟩
  have hD := (Below.refl y3.heap.size y3).drew
  replace HB := bt HB hD
  replace kC := kC.b hD
  replace R0 := R0.on hD hD.size
  clear hD
  generalize y3.drew = y4 at *
  refine tj 0 _ ?_
  try simp only [Act.put, ka, kb, kc]
  refine tj 1 ((lgV c.lg (.slice A n p))) ?_ (hy := fun wq hSw => run_ldAt rfl rfl hSw.1 (aggL _) (sizeL _))
  try simp only [Act.put, ka, kb, kc]
  iterate 2 (refine tx 3 _ ?_; try simp only [Act.put, ka, kb, kc])
  refine rr [2] ?_
  refine rc (fun KQ hKQ => ?_) AllReadyH.nil
  go_simp
  have CC := ref12.rlt_any c.lg A n p y4 y4.heap.size R0 (Nat.le_refl _) hp HF.out
  rw [htl.out] at CC
  refine (CC).mono ?_
  rintro e y5 ⟨rfl, hY⟩
  replace HB := bt HB hY
  replace kC := kC.b hY
  replace R0 := R0.on hY hY.size
  clear hY
  clear CC
  go_wp2_with fail
  refine hKQ.out _ _ (⟨at_cL kC, by rw [← htm.out]; exact kC.cell 2, by rw [← hwa.out]; exact kC.cell 5, by rw [← hcm.out]; exact kC.cell 6, by rw [← hsf.out]; exact kC.cell 7, by rw [← hb.out]; exact kC.cell 8⟩) (fun _ => ?_)
  clear hKQ KQ
  try simp only [Act.put, ka, kb, kc]
  refine tj 5 ((.bool false)) ?_ (hy := fun wq hSw => rb_gtr rfl rfl rfl (decide_eq_false (by have := v0.out; omega)))
  try simp only [Act.put, ka, kb, kc]
  iterate 6 (refine tx 6 _ ?_; try simp only [Act.put, ka, kb, kc])
  refine tj 12 ((.bool false)) ?_ (hy := fun wq hSw => ref13.rb_lss rfl rfl rfl (decide_eq_false (by have := v1.out; omega)))
  try simp only [Act.put, ka, kb, kc]
  iterate 5 (refine tx 13 _ ?_; try simp only [Act.put, ka, kb, kc])
  refine tj 18 ((.bool false)) ?_ (hy := fun wq hSw => rb_gtr rfl rfl rfl (decide_eq_false (by have := v2.out; omega)))
  try simp only [Act.put, ka, kb, kc]
  iterate 4 (refine tx 19 _ ?_; try simp only [Act.put, ka, kb, kc])
  refine tj 23 ((.bool true)) ?_ (hy := fun wq hSw => ref13.rb_lss rfl rfl rfl (decide_eq_true (by have := v3.out; omega)))
  try simp only [Act.put, ka, kb, kc]
  iterate 2 (refine tx 24 _ ?_; try simp only [Act.put, ka, kb, kc])
  refine tv 26 ?_
  try simp only [Act.put, ka, kb, kc]
  refine tv 27 ?_
  try simp only [Act.put, ka, kb, kc]
  refine tv 28 ?_
  try simp only [Act.put, ka, kb, kc]
  iterate 2 (refine tx 29 _ ?_; try simp only [Act.put, ka, kb, kc])
  refine tv 31 ?_
  try simp only [Act.put, ka, kb, kc]
  refine tv 32 ?_
  try simp only [Act.put, ka, kb, kc]
  refine tv 33 ?_
  try simp only [Act.put, ka, kb, kc]
  iterate 2 (refine tx 34 _ ?_; try simp only [Act.put, ka, kb, kc])
  refine tv 36 ?_
  try simp only [Act.put, ka, kb, kc]
  refine tv 37 ?_
  try simp only [Act.put, ka, kb, kc]
  refine tv 38 ?_
  try simp only [Act.put, ka, kb, kc]
  refine tj 39 _ ?_
  try simp only [Act.put, ka, kb, kc]
  refine wpAnyH_done (by kernel_rfl) ?_ _
  have hE : Hid (mayK c = false) := Bool.eq_false_iff.2 (fun e => by have h := hA.out e; have := v3.out; omega)
  go_wp2_with go_skip
  go_ret
  rw [hE.out]
  exact ⟨rfl, HB⟩
 have v3 := Lh t1
 clear t1
 by_cases t1 : wa > 1099511627776
 ·
  have v4 := Lh t1
  clear t1
  refine wp_region_held_drew (S := fun wq => At wq w.heap.size 8 (lgC c.lg (.slice A n p)) ∧ wq.cell? ⟨w.heap.size, 2, none⟩ = some (.int .i64 tm) ∧ wq.cell? ⟨w.heap.size, 5, none⟩ = some (.int .i64 wa) ∧ wq.cell? ⟨w.heap.size, 6, none⟩ = some (.int .i64 cm) ∧ wq.cell? ⟨w.heap.size, 7, none⟩ = some (.int .i64 sf) ∧ wq.cell? ⟨w.heap.size, 8, none⟩ = some (.int .i64 b)) (by kernel_rfl) ?s_rmy4_4 (fun hHeld => ?_)
  case s_rmy4_4 => exact ⟨at_cL kC, by rw [← htm.out]; exact kC.cell 2, by rw [← hwa.out]; exact kC.cell 5, by rw [← hcm.out]; exact kC.cell 6, by rw [← hsf.out]; exact kC.cell 7, by rw [← hb.out]; exact kC.cell 8⟩
  have hD := (Below.refl y3.heap.size y3).drew
  replace HB := bt HB hD
  replace kC := kC.b hD
  replace R0 := R0.on hD hD.size
  clear hD
  generalize y3.drew = y4 at *
  refine tj 0 _ ?_
  try simp only [Act.put, ka, kb, kc]
  refine tj 1 ((lgV c.lg (.slice A n p))) ?_ (hy := fun wq hSw => run_ldAt rfl rfl hSw.1 (aggL _) (sizeL _))
  try simp only [Act.put, ka, kb, kc]
  iterate 2 (refine tx 3 _ ?_; try simp only [Act.put, ka, kb, kc])
  refine rr [2] ?_
  refine rc (fun KQ hKQ => ?_) AllReadyH.nil
  go_simp
  have CC := ref12.rlt_any c.lg A n p y4 y4.heap.size R0 (Nat.le_refl _) hp HF.out
  rw [htl.out] at CC
  refine (CC).mono ?_
  rintro e y5 ⟨rfl, hY⟩
  replace HB := bt HB hY
  replace kC := kC.b hY
  replace R0 := R0.on hY hY.size
  clear hY
  clear CC
  go_wp2_with fail
  refine hKQ.out _ _ (⟨at_cL kC, by rw [← htm.out]; exact kC.cell 2, by rw [← hwa.out]; exact kC.cell 5, by rw [← hcm.out]; exact kC.cell 6, by rw [← hsf.out]; exact kC.cell 7, by rw [← hb.out]; exact kC.cell 8⟩) (fun _ => ?_)
  clear hKQ KQ
  try simp only [Act.put, ka, kb, kc]
  refine tj 5 ((.bool false)) ?_ (hy := fun wq hSw => rb_gtr rfl rfl rfl (decide_eq_false (by have := v0.out; omega)))
  try simp only [Act.put, ka, kb, kc]
  iterate 6 (refine tx 6 _ ?_; try simp only [Act.put, ka, kb, kc])
  refine tj 12 ((.bool false)) ?_ (hy := fun wq hSw => ref13.rb_lss rfl rfl rfl (decide_eq_false (by have := v1.out; omega)))
  try simp only [Act.put, ka, kb, kc]
  iterate 5 (refine tx 13 _ ?_; try simp only [Act.put, ka, kb, kc])
  refine tj 18 ((.bool false)) ?_ (hy := fun wq hSw => rb_gtr rfl rfl rfl (decide_eq_false (by have := v2.out; omega)))
  try simp only [Act.put, ka, kb, kc]
  iterate 4 (refine tx 19 _ ?_; try simp only [Act.put, ka, kb, kc])
  refine tj 23 ((.bool false)) ?_ (hy := fun wq hSw => ref13.rb_lss rfl rfl rfl (decide_eq_false (by have := v3.out; omega)))
  try simp only [Act.put, ka, kb, kc]
  iterate 4 (refine tx 24 _ ?_; try simp only [Act.put, ka, kb, kc])
  refine tj 28 ((.bool true)) ?_ (hy := fun wq hSw => rb_gtr rfl rfl rfl (decide_eq_true (by have := v4.out; omega)))
  try simp only [Act.put, ka, kb, kc]
  iterate 2 (refine tx 29 _ ?_; try simp only [Act.put, ka, kb, kc])
  refine tv 31 ?_
  try simp only [Act.put, ka, kb, kc]
  refine tv 32 ?_
  try simp only [Act.put, ka, kb, kc]
  refine tv 33 ?_
  try simp only [Act.put, ka, kb, kc]
  iterate 2 (refine tx 34 _ ?_; try simp only [Act.put, ka, kb, kc])
  refine tv 36 ?_
  try simp only [Act.put, ka, kb, kc]
  refine tv 37 ?_
  try simp only [Act.put, ka, kb, kc]
  refine tv 38 ?_
  try simp only [Act.put, ka, kb, kc]
  refine tj 39 _ ?_
  try simp only [Act.put, ka, kb, kc]
  refine wpAnyH_done (by kernel_rfl) ?_ _
  have hE : Hid (mayK c = false) := Bool.eq_false_iff.2 (fun e => by have h := hA.out e; have := v4.out; omega)
  go_wp2_with go_skip
  go_ret
  rw [hE.out]
  exact ⟨rfl, HB⟩
 have v4 := Lh t1
 clear t1
 by_cases t1 : sf < 0
 ·
  have v5 := Lh t1
  clear t1
  refine wp_region_held_drew (S := fun wq => At wq w.heap.size 8 (lgC c.lg (.slice A n p)) ∧ wq.cell? ⟨w.heap.size, 2, none⟩ = some (.int .i64 tm) ∧ wq.cell? ⟨w.heap.size, 5, none⟩ = some (.int .i64 wa) ∧ wq.cell? ⟨w.heap.size, 6, none⟩ = some (.int .i64 cm) ∧ wq.cell? ⟨w.heap.size, 7, none⟩ = some (.int .i64 sf) ∧ wq.cell? ⟨w.heap.size, 8, none⟩ = some (.int .i64 b)) (by kernel_rfl) ?s_rmy4_5 (fun hHeld => ?_)
  case s_rmy4_5 => exact ⟨at_cL kC, by rw [← htm.out]; exact kC.cell 2, by rw [← hwa.out]; exact kC.cell 5, by rw [← hcm.out]; exact kC.cell 6, by rw [← hsf.out]; exact kC.cell 7, by rw [← hb.out]; exact kC.cell 8⟩
  have hD := (Below.refl y3.heap.size y3).drew
  replace HB := bt HB hD
  replace kC := kC.b hD
  replace R0 := R0.on hD hD.size
  clear hD
  generalize y3.drew = y4 at *
  refine tj 0 _ ?_
  try simp only [Act.put, ka, kb, kc]
  refine tj 1 ((lgV c.lg (.slice A n p))) ?_ (hy := fun wq hSw => run_ldAt rfl rfl hSw.1 (aggL _) (sizeL _))
  try simp only [Act.put, ka, kb, kc]
  iterate 2 (refine tx 3 _ ?_; try simp only [Act.put, ka, kb, kc])
  refine rr [2] ?_
  refine rc (fun KQ hKQ => ?_) AllReadyH.nil
  go_simp
  have CC := ref12.rlt_any c.lg A n p y4 y4.heap.size R0 (Nat.le_refl _) hp HF.out
  rw [htl.out] at CC
  refine (CC).mono ?_
  rintro e y5 ⟨rfl, hY⟩
  replace HB := bt HB hY
  replace kC := kC.b hY
  replace R0 := R0.on hY hY.size
  clear hY
  clear CC
  go_wp2_with fail
  refine hKQ.out _ _ (⟨at_cL kC, by rw [← htm.out]; exact kC.cell 2, by rw [← hwa.out]; exact kC.cell 5, by rw [← hcm.out]; exact kC.cell 6, by rw [← hsf.out]; exact kC.cell 7, by rw [← hb.out]; exact kC.cell 8⟩) (fun _ => ?_)
  clear hKQ KQ
  try simp only [Act.put, ka, kb, kc]
  refine tj 5 ((.bool false)) ?_ (hy := fun wq hSw => rb_gtr rfl rfl rfl (decide_eq_false (by have := v0.out; omega)))
  try simp only [Act.put, ka, kb, kc]
  iterate 6 (refine tx 6 _ ?_; try simp only [Act.put, ka, kb, kc])
  refine tj 12 ((.bool false)) ?_ (hy := fun wq hSw => ref13.rb_lss rfl rfl rfl (decide_eq_false (by have := v1.out; omega)))
  try simp only [Act.put, ka, kb, kc]
  iterate 5 (refine tx 13 _ ?_; try simp only [Act.put, ka, kb, kc])
  refine tj 18 ((.bool false)) ?_ (hy := fun wq hSw => rb_gtr rfl rfl rfl (decide_eq_false (by have := v2.out; omega)))
  try simp only [Act.put, ka, kb, kc]
  iterate 4 (refine tx 19 _ ?_; try simp only [Act.put, ka, kb, kc])
  refine tj 23 ((.bool false)) ?_ (hy := fun wq hSw => ref13.rb_lss rfl rfl rfl (decide_eq_false (by have := v3.out; omega)))
  try simp only [Act.put, ka, kb, kc]
  iterate 4 (refine tx 24 _ ?_; try simp only [Act.put, ka, kb, kc])
  refine tj 28 ((.bool false)) ?_ (hy := fun wq hSw => rb_gtr rfl rfl rfl (decide_eq_false (by have := v4.out; omega)))
  try simp only [Act.put, ka, kb, kc]
  iterate 4 (refine tx 29 _ ?_; try simp only [Act.put, ka, kb, kc])
  refine tj 33 ((.bool true)) ?_ (hy := fun wq hSw => ref13.rb_lss rfl rfl rfl (decide_eq_true (by have := v5.out; omega)))
  try simp only [Act.put, ka, kb, kc]
  iterate 2 (refine tx 34 _ ?_; try simp only [Act.put, ka, kb, kc])
  refine tv 36 ?_
  try simp only [Act.put, ka, kb, kc]
  refine tv 37 ?_
  try simp only [Act.put, ka, kb, kc]
  refine tv 38 ?_
  try simp only [Act.put, ka, kb, kc]
  refine tj 39 _ ?_
  try simp only [Act.put, ka, kb, kc]
  refine wpAnyH_done (by kernel_rfl) ?_ _
  have hE : Hid (mayK c = false) := Bool.eq_false_iff.2 (fun e => by have h := hA.out e; have := v5.out; omega)
  go_wp2_with go_skip
  go_ret
  rw [hE.out]
  exact ⟨rfl, HB⟩
 have v5 := Lh t1
 clear t1
 by_cases t1 : sf > 1099511627776
 ·
  have v6 := Lh t1
  clear t1
  refine wp_region_held_drew (S := fun wq => At wq w.heap.size 8 (lgC c.lg (.slice A n p)) ∧ wq.cell? ⟨w.heap.size, 2, none⟩ = some (.int .i64 tm) ∧ wq.cell? ⟨w.heap.size, 5, none⟩ = some (.int .i64 wa) ∧ wq.cell? ⟨w.heap.size, 6, none⟩ = some (.int .i64 cm) ∧ wq.cell? ⟨w.heap.size, 7, none⟩ = some (.int .i64 sf) ∧ wq.cell? ⟨w.heap.size, 8, none⟩ = some (.int .i64 b)) (by kernel_rfl) ?s_rmy4_6 (fun hHeld => ?_)
  case s_rmy4_6 => exact ⟨at_cL kC, by rw [← htm.out]; exact kC.cell 2, by rw [← hwa.out]; exact kC.cell 5, by rw [← hcm.out]; exact kC.cell 6, by rw [← hsf.out]; exact kC.cell 7, by rw [← hb.out]; exact kC.cell 8⟩
  have hD := (Below.refl y3.heap.size y3).drew
  replace HB := bt HB hD
  replace kC := kC.b hD
  replace R0 := R0.on hD hD.size
  clear hD
  generalize y3.drew = y4 at *
  refine tj 0 _ ?_
  try simp only [Act.put, ka, kb, kc]
  refine tj 1 ((lgV c.lg (.slice A n p))) ?_ (hy := fun wq hSw => run_ldAt rfl rfl hSw.1 (aggL _) (sizeL _))
  try simp only [Act.put, ka, kb, kc]
  iterate 2 (refine tx 3 _ ?_; try simp only [Act.put, ka, kb, kc])
  refine rr [2] ?_
  refine rc (fun KQ hKQ => ?_) AllReadyH.nil
  go_simp
  have CC := ref12.rlt_any c.lg A n p y4 y4.heap.size R0 (Nat.le_refl _) hp HF.out
  rw [htl.out] at CC
  refine (CC).mono ?_
  rintro e y5 ⟨rfl, hY⟩
  replace HB := bt HB hY
  replace kC := kC.b hY
  replace R0 := R0.on hY hY.size
  clear hY
  clear CC
  go_wp2_with fail
  refine hKQ.out _ _ (⟨at_cL kC, by rw [← htm.out]; exact kC.cell 2, by rw [← hwa.out]; exact kC.cell 5, by rw [← hcm.out]; exact kC.cell 6, by rw [← hsf.out]; exact kC.cell 7, by rw [← hb.out]; exact kC.cell 8⟩) (fun _ => ?_)
  clear hKQ KQ
  try simp only [Act.put, ka, kb, kc]
  refine tj 5 ((.bool false)) ?_ (hy := fun wq hSw => rb_gtr rfl rfl rfl (decide_eq_false (by have := v0.out; omega)))
  try simp only [Act.put, ka, kb, kc]
  iterate 6 (refine tx 6 _ ?_; try simp only [Act.put, ka, kb, kc])
  refine tj 12 ((.bool false)) ?_ (hy := fun wq hSw => ref13.rb_lss rfl rfl rfl (decide_eq_false (by have := v1.out; omega)))
  try simp only [Act.put, ka, kb, kc]
  iterate 5 (refine tx 13 _ ?_; try simp only [Act.put, ka, kb, kc])
  refine tj 18 ((.bool false)) ?_ (hy := fun wq hSw => rb_gtr rfl rfl rfl (decide_eq_false (by have := v2.out; omega)))
  try simp only [Act.put, ka, kb, kc]
  iterate 4 (refine tx 19 _ ?_; try simp only [Act.put, ka, kb, kc])
  refine tj 23 ((.bool false)) ?_ (hy := fun wq hSw => ref13.rb_lss rfl rfl rfl (decide_eq_false (by have := v3.out; omega)))
  try simp only [Act.put, ka, kb, kc]
  iterate 4 (refine tx 24 _ ?_; try simp only [Act.put, ka, kb, kc])
  refine tj 28 ((.bool false)) ?_ (hy := fun wq hSw => rb_gtr rfl rfl rfl (decide_eq_false (by have := v4.out; omega)))
  try simp only [Act.put, ka, kb, kc]
  iterate 4 (refine tx 29 _ ?_; try simp only [Act.put, ka, kb, kc])
  refine tj 33 ((.bool false)) ?_ (hy := fun wq hSw => ref13.rb_lss rfl rfl rfl (decide_eq_false (by have := v5.out; omega)))
  try simp only [Act.put, ka, kb, kc]
  iterate 4 (refine tx 34 _ ?_; try simp only [Act.put, ka, kb, kc])
  refine tj 38 ((.bool true)) ?_ (hy := fun wq hSw => rb_gtr rfl rfl rfl (decide_eq_true (by have := v6.out; omega)))
  try simp only [Act.put, ka, kb, kc]
  refine tj 39 _ ?_
  try simp only [Act.put, ka, kb, kc]
  refine wpAnyH_done (by kernel_rfl) ?_ _
  have hE : Hid (mayK c = false) := Bool.eq_false_iff.2 (fun e => by have h := hA.out e; have := v6.out; omega)
  go_wp2_with go_skip
  go_ret
  rw [hE.out]
  exact ⟨rfl, HB⟩
 have v6 := Lh t1
 clear t1
 refine wp_region_held_drew (S := fun wq => At wq w.heap.size 8 (lgC c.lg (.slice A n p)) ∧ wq.cell? ⟨w.heap.size, 2, none⟩ = some (.int .i64 tm) ∧ wq.cell? ⟨w.heap.size, 5, none⟩ = some (.int .i64 wa) ∧ wq.cell? ⟨w.heap.size, 6, none⟩ = some (.int .i64 cm) ∧ wq.cell? ⟨w.heap.size, 7, none⟩ = some (.int .i64 sf) ∧ wq.cell? ⟨w.heap.size, 8, none⟩ = some (.int .i64 b)) (by kernel_rfl) ?s_rmy4_7 (fun hHeld => ?_)
 case s_rmy4_7 => exact ⟨at_cL kC, by rw [← htm.out]; exact kC.cell 2, by rw [← hwa.out]; exact kC.cell 5, by rw [← hcm.out]; exact kC.cell 6, by rw [← hsf.out]; exact kC.cell 7, by rw [← hb.out]; exact kC.cell 8⟩
 have hD := (Below.refl y3.heap.size y3).drew
 replace HB := bt HB hD
 replace kC := kC.b hD
 replace R0 := R0.on hD hD.size
 clear hD
 generalize y3.drew = y4 at *
 refine tj 0 _ ?_
 try simp only [Act.put, ka, kb, kc]
 refine tj 1 ((lgV c.lg (.slice A n p))) ?_ (hy := fun wq hSw => run_ldAt rfl rfl hSw.1 (aggL _) (sizeL _))
 try simp only [Act.put, ka, kb, kc]
 iterate 2 (refine tx 3 _ ?_; try simp only [Act.put, ka, kb, kc])
 refine rr [2] ?_
 refine rc (fun KQ hKQ => ?_) AllReadyH.nil
 go_simp
 have CC := ref12.rlt_any c.lg A n p y4 y4.heap.size R0 (Nat.le_refl _) hp HF.out
 rw [htl.out] at CC
 refine (CC).mono ?_
 rintro e y5 ⟨rfl, hY⟩
 replace HB := bt HB hY
 replace kC := kC.b hY
 replace R0 := R0.on hY hY.size
 clear hY
 clear CC
 go_wp2_with fail
 refine hKQ.out _ _ (⟨at_cL kC, by rw [← htm.out]; exact kC.cell 2, by rw [← hwa.out]; exact kC.cell 5, by rw [← hcm.out]; exact kC.cell 6, by rw [← hsf.out]; exact kC.cell 7, by rw [← hb.out]; exact kC.cell 8⟩) (fun _ => ?_)
 clear hKQ KQ
 try simp only [Act.put, ka, kb, kc]
 refine tj 5 ((.bool false)) ?_ (hy := fun wq hSw => rb_gtr rfl rfl rfl (decide_eq_false (by have := v0.out; omega)))
 try simp only [Act.put, ka, kb, kc]
 iterate 6 (refine tx 6 _ ?_; try simp only [Act.put, ka, kb, kc])
 refine tj 12 ((.bool false)) ?_ (hy := fun wq hSw => ref13.rb_lss rfl rfl rfl (decide_eq_false (by have := v1.out; omega)))
 try simp only [Act.put, ka, kb, kc]
 iterate 5 (refine tx 13 _ ?_; try simp only [Act.put, ka, kb, kc])
 refine tj 18 ((.bool false)) ?_ (hy := fun wq hSw => rb_gtr rfl rfl rfl (decide_eq_false (by have := v2.out; omega)))
 try simp only [Act.put, ka, kb, kc]
 iterate 4 (refine tx 19 _ ?_; try simp only [Act.put, ka, kb, kc])
 refine tj 23 ((.bool false)) ?_ (hy := fun wq hSw => ref13.rb_lss rfl rfl rfl (decide_eq_false (by have := v3.out; omega)))
 try simp only [Act.put, ka, kb, kc]
 iterate 4 (refine tx 24 _ ?_; try simp only [Act.put, ka, kb, kc])
 refine tj 28 ((.bool false)) ?_ (hy := fun wq hSw => rb_gtr rfl rfl rfl (decide_eq_false (by have := v4.out; omega)))
 try simp only [Act.put, ka, kb, kc]
 iterate 4 (refine tx 29 _ ?_; try simp only [Act.put, ka, kb, kc])
 refine tj 33 ((.bool false)) ?_ (hy := fun wq hSw => ref13.rb_lss rfl rfl rfl (decide_eq_false (by have := v5.out; omega)))
 try simp only [Act.put, ka, kb, kc]
 iterate 4 (refine tx 34 _ ?_; try simp only [Act.put, ka, kb, kc])
 refine tj 38 ((.bool false)) ?_ (hy := fun wq hSw => rb_gtr rfl rfl rfl (decide_eq_false (by have := v6.out; omega)))
 try simp only [Act.put, ka, kb, kc]
 refine tj 39 _ ?_
 try simp only [Act.put, ka, kb, kc]
 refine wpAnyH_done (by kernel_rfl) ?_ _
 have BkC := Lh kC
 clear kC
 have BR0 := Lh R0
 clear R0
 have BH := Lh HB
 clear HB
 go_wp2_with go_skip
 go_loopw [4] (fun iv wr => ∃ k : Nat, k ≤ 10 ∧ iv = .int .i64 (k : Int) ∧ Hid (Below y5.heap.size y5 wr) ∧ Hid (∀ q : Nat, q < k → (0 ≤ c.nx q ∧ c.nx q ≤ 2199023255552) ∧ (0 ≤ c.mt q ∧ c.mt q ≤ la))) (fun iv _ => 10 - (intOf iv).toNat)
 case atStart => exact ⟨0, by omega, rfl, Lh (Below.refl _ _), Lh (fun q h => absurd h (by omega))⟩
 case round =>
  obtain ⟨k, hk, rfl, HY, HG⟩ := hrel
  by_cases hk10 : k < 10
  ·
   have kC := BkC.out.below HY.out BkC.out.lt
   have R0 := BR0.out.on HY.out HY.out.size
   have HB := HY.out
   have ck : (k : Int) < 10 := by omega
   have c0k : (0 : Int) ≤ (k : Int) := by omega
   have wk : IntKind.i64.wrap ((k : Int) + 1) = ((k + 1 : Nat) : Int) := by rw [wrap_sm (by omega) (by omega)]; omega
   have hk2 := Lh hk10
   obtain ⟨nv, hnv⟩ : ∃ q, c.nx k = q := ⟨_, rfl⟩
   obtain ⟨mv, hmv⟩ : ∃ q, c.mt k = q := ⟨_, rfl⟩
   replace hnv := Lh hnv
   replace hmv := Lh hmv
   have cnx : wr.cell? ⟨w.heap.size, 25 + k, none⟩ = some (.int .i64 nv) := by rw [← hnv.out]; exact cr_nx kC hk2.out
   have cmt : wr.cell? ⟨w.heap.size, 35 + k, none⟩ = some (.int .i64 mv) := by rw [← hmv.out]; exact cr_mt kC hk2.out
   by_cases t1 : nv < 0
   ·
    have t1h := Lh t1
    have hE : Hid (mayK c = false) := Bool.eq_false_iff.2 (fun e => by have h := (hA.out e).2.2.2.2.2.2.2.2.2.2 k hk2.out; have := hnv.out; have := hmv.out; have := t1h.out; omega)
    go_wp2_with go_skip
    go_ret
    rw [hE.out]
    exact ⟨rfl, BH.out.trans (HB.mono BH.out.size)⟩
   have x0 := t1
   have z0 := Lh t1
   clear t1
   by_cases t1 : nv > 2199023255552
   ·
    have t1h := Lh t1
    have hE : Hid (mayK c = false) := Bool.eq_false_iff.2 (fun e => by have h := (hA.out e).2.2.2.2.2.2.2.2.2.2 k hk2.out; have := hnv.out; have := hmv.out; have := t1h.out; omega)
    go_wp2_with go_skip
    go_ret
    rw [hE.out]
    exact ⟨rfl, BH.out.trans (HB.mono BH.out.size)⟩
   have x1 := t1
   have z1 := Lh t1
   clear t1
   by_cases t1 : mv < 0
   ·
    have t1h := Lh t1
    have hE : Hid (mayK c = false) := Bool.eq_false_iff.2 (fun e => by have h := (hA.out e).2.2.2.2.2.2.2.2.2.2 k hk2.out; have := hnv.out; have := hmv.out; have := t1h.out; omega)
    go_wp2_with go_skip
    go_ret
    rw [hE.out]
    exact ⟨rfl, BH.out.trans (HB.mono BH.out.size)⟩
   have x2 := t1
   have z2 := Lh t1
   clear t1
   by_cases t1 : mv > la
   ·
    have t1h := Lh t1
    have hE : Hid (mayK c = false) := Bool.eq_false_iff.2 (fun e => by have h := (hA.out e).2.2.2.2.2.2.2.2.2.2 k hk2.out; have := hnv.out; have := hmv.out; have := t1h.out; omega)
    go_wp2_with go_skip
    go_ret
    rw [hE.out]
    exact ⟨rfl, BH.out.trans (HB.mono BH.out.size)⟩
   have x3 := t1
   have z3 := Lh t1
   clear t1
   go_wp2_with go_skip
   go_roundw
   case rel => exact ⟨k + 1, by omega, rfl, Lh HB, Lh (fun q hq => by
    rcases Nat.lt_succ_iff_lt_or_eq.1 hq with h | rfl
    · exact HG.out q h
    · rw [hnv.out, hmv.out]; have := z0.out; have := z1.out; have := z2.out; have := z3.out; omega)⟩
   case measure => simp only [intOf]; omega
  ·
   have kC := BkC.out.below HY.out BkC.out.lt
   have R0 := BR0.out.on HY.out HY.out.size
   have HB := HY.out
   obtain rfl : k = 10 := by omega
   have ck : ¬ (((10 : Nat) : Int) < 10) := by omega
   have hE := Lh (hM.out ⟨by have := ut_idl.out; have := ut_idg.out; omega, by have := ut_rol.out; have := ut_rog.out; omega, by have := ut_tml.out; have := ut_tmg.out; omega, by have := ut_vol.out; have := ut_vog.out; omega, by have := ut_lel.out; have := ut_leg.out; omega, by first | rfl | trivial, by have := v0.out; omega, by have := v1.out; have := v2.out; omega, by have := v3.out; have := v4.out; omega, by have := v5.out; have := v6.out; omega, HG.out⟩)
   go_wp2_with go_skip
   go_ret
   rw [hE.out]
   exact ⟨rfl, BH.out.trans (HB.mono BH.out.size)⟩
end Go.Proofs.YtegnfkbmlalkeaaGreat.cor
