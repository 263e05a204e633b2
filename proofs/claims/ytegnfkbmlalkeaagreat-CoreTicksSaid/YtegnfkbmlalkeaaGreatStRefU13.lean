/- The document's Tick of one who does not lead. Conditions: those that the theorem names. -/
import Derived.Deep.RegionHeld3
import Derived.Deep.Cut
import Derived.Lib.Hide
import Derived.Test.YtegnfkbmlalkeaaGreatStJ3
import Derived.Test.YtegnfkbmlalkeaaGreatStJ0
import Derived.Test.YtegnfkbmlalkeaaGreatStJ6
import Derived.Test.YtegnfkbmlalkeaaGreatStJ2
import Derived.Test.YtegnfkbmlalkeaaGreatStKitLg
set_option linter.unusedVariables false
set_option maxHeartbeats 16000000
set_option maxRecDepth 10000
namespace Go.Proofs.YtegnfkbmlalkeaaGreat.ref13
open Go Go.RowKit kit nums cf lg cr se
theorem tick_else (c : CoL) (A : Option Addr) (n p : Nat) (w : World) (B : Nat) (hR : RdE w B A n c.lg.es) (hB : B ≤ w.heap.size) (hp : n ≤ p) (hk : GoodK c) (hro : ¬ c.ro = 2) : Calls Tryz.prog 18 #[crV c (.slice A n p)] w fun e w' => ∃ A' n' p' v, e = .returned (.tuple #[crV (tickF c).1 (.slice A' n' p'), v]) ∧ RdE w' w'.heap.size A' n' (tickF c).1.lg.es ∧ n' ≤ p' ∧ RdMs w' v (tickF c).2 ∧ Below w.heap.size w w' := by
 have HK := Lh hk
 have HF := Lh hk.n.1
 have R0 := hR.more hB
 clear hR hB hk
 have hid := Lh (show 1 ≤ c.id ∧ c.id ≤ 9 from ⟨HK.out.id1, HK.out.n.2.2.2.1⟩)
 have hwa := HK.out.wa
 have htm := HK.out.tm
 obtain ⟨c1, hc1⟩ : ∃ q : CoL, q = { c with wa := c.wa + 1 } := ⟨_, rfl⟩
 replace hwa := Lh hwa
 replace htm := Lh htm
 have hTk := Lh (tick_parts c)
 rw [← hc1] at hTk
 have hc1e := Lh hc1
 have hG1 : Hid (GoodN c1 700000 ∧ c1.lg = c.lg ∧ c1.id = c.id ∧ c1.tm = c.tm ∧ c1.wa = c.wa + 1 ∧ c1.he = c.he ∧ c1.nx = c.nx ∧ c1.cm = c.cm) := by show _ ∧ _; rw [hc1]; exact ⟨HK.out.n, rfl, rfl, rfl, rfl, rfl, rfl, rfl⟩
 clear hc1
 go_enter Tryz.func18, Tryz.ntmps18
 go_wp2_with (refine box_C rfl _ rfl c (.slice A n p) rfl ?_)
 intro y1 kC e1 s1
 clear s1
 have HB := e1
 replace R0 := R0.on e1 e1.size
 clear e1
 go_wp2_with (first | refine al_C rfl rfl ?_ | (first | refine lo_Cj kC ?_ | refine lo_cLj kC ?_ | refine lo_cJj kC ?_))
 intro y2 kO e2 s2
 clear s2
 replace kO : Blk _ _ _ (crC zC (.slice none 0 0)) := kO
 have LTkCkO := Lh kC.lt
 replace HB := bt HB e2
 replace kC := kC.b e2
 replace R0 := R0.on e2 e2.size
 clear e2
 generalize y1.heap.size = gkO at *
 go_wp2_with (first | refine lo_Cj kC ?_ | refine lo_cLj kC ?_ | refine lo_cJj kC ?_ | refine lo_Cj kO ?_ | refine lo_cLj kO ?_ | refine lo_cJj kO ?_)
 have CC := begin_any c A n p y2 y2.heap.size R0 (Nat.le_refl _) hp HF.out
 have hzO := Lh kO.lt
 have hzC := Lh kC.lt
 have hsz0 := Lh HB.size
 refine CC.mono ?_
 rintro e2 yB ⟨g, rfl, hI, hY, hgg⟩
 clear CC
 replace HB := bt HB hY
 replace kC := kC.b hY
 replace kO := kO.b hY
 replace R0 := R0.on hY hY.size
 clear hY
 generalize hlo : y2.heap.size = lo at *
 replace hlo := Lh hlo
 have HB0 := Lh HB
 have HB0 := Lh HB
 clear HB R0
 have hlg := Lh hgg
 have akC : Ap g ⟨none, lo⟩ w.heap.size := ⟨Nat.ne_of_lt (Nat.lt_of_lt_of_le hzC.out hgg), fun h => by cases h⟩
 have akO : Ap g ⟨none, lo⟩ gkO := ⟨Nat.ne_of_lt (Nat.lt_of_lt_of_le hzO.out hgg), fun h => by cases h⟩
 clear hgg
 obtain ⟨A0, n0, p0, v0, kR, hR⟩ := hI
 have HC := Ch.refl g ⟨none, lo⟩ yB
 have HN := Nx.refl ⟨none, lo⟩ yB
 have ww : IntKind.i64.wrap (c.wa + 1) = c.wa + 1 := by have := hwa.out; rw [wrap_sm (by omega) (by omega)]
 have df := fun i => kR.frozen i
 have cR5 : _ = some _ := kR.cell 5
 go_upto_region 3 with (fail)
 clear df cR5
 have kR2 : Blk 99 _ g (rnC { c with wa := c.wa + 1 } (.slice A0 n0 p0) v0) := kR.set_ 5 (.int .i64 (c.wa + 1))
 have pO := put_set yB g (5) (.int .i64 (c.wa + 1))
 clear kR
 generalize (yB.setCell ⟨g, 5, none⟩ (.int .i64 (c.wa + 1))) = y41 at *
 replace kC := kC.put pO akC.1
 replace kO := kO.put pO akO.1
 replace hR := hR.put pO
 replace HC := HC.trans HN (Ch.of_put _ pO pO.low)
 have kR := kR2
 clear kR2 pO
 rw [← hc1e.out] at kR
 have hesE : c.lg.es = c1.lg.es := by rw [hG1.out.2.1]
 rw [hesE] at hR
 clear hesE ww
 have hlw : Hid (w.heap.size ≤ lo) := Nat.le_trans (Nat.le_of_lt hzC.out) (Nat.le_refl _)
 have hwO : Hid (w.heap.size ≤ gkO) := Nat.le_of_lt LTkCkO.out
 have cro : _ = some (Value.int .i64 c.ro) := kC.cell 1
 have hb : (c.ro == 2) = false := by simp [hro]
 have hTE := hTk.out.2 hro
 replace hTE := Lh hTE
 clear hTk
 obtain ⟨wv, hwv⟩ : ∃ q, c1.wa = q := ⟨_, rfl⟩
 obtain ⟨pv, hpv⟩ : ∃ q, patF c1.id = q := ⟨_, rfl⟩
 obtain ⟨lb, hlb⟩ : ∃ q, ledF (conC c1) c1.id = q := ⟨_, rfl⟩
 replace hwv := Lh hwv
 replace hpv := Lh hpv
 replace hlb := Lh hlb
 obtain ⟨tv, htv⟩ : ∃ q, c1.tm = q := ⟨_, rfl⟩
 have htv1 : 0 ≤ tv ∧ tv ≤ 1099511627776 := by rw [← htv, hG1.out.2.2.2.1]; exact htm.out
 replace htv := Lh htv
 replace htv1 := Lh htv1
 go_upto_region 11 with (first | refine lo_Cj kC ?_ | refine lo_cLj kC ?_ | refine lo_cJj kC ?_ | refine lo_Cj kO ?_ | refine lo_cLj kO ?_ | refine lo_cJj kO ?_ | refine lo_rLj kR ?_ | refine lo_rCj kR ?_)
 clear cro
 rcases lb with _ | _
 ·
  refine wp_region_held_drew (S := fun wq => wq.cell? ⟨w.heap.size, 0, none⟩ = some (.int .i64 c1.id) ∧ wq.cell? ⟨w.heap.size, 2, none⟩ = some (.int .i64 tv) ∧ wq.cell? ⟨g, 5, none⟩ = some (.int .i64 wv)) (by kernel_rfl) ?s_tck11a (fun hHeld => ?_)
  case s_tck11a => exact ⟨by rw [hG1.out.2.2.1]; exact kC.cell 0, by rw [← htv.out, hG1.out.2.2.2.1]; exact kC.cell 2, by rw [← hwv.out]; exact kR.cell 5⟩
  have hD := (Below.refl y41.heap.size y41).drew
  replace HC := HC.trans HN (Ch.of_below g _ hD)
  replace kC := kC.b hD
  replace kO := kO.b hD
  replace kR := kR.b hD
  replace hR := hR.below hD
  clear hD
  generalize y41.drew = y42 at *
  refine tj 0 _ ?_
  try simp only [Act.put, ka, kb, kc]
  iterate 2 (refine tx 2 _ ?_; try simp only [Act.put, ka, kb, kc])
  refine rr [1] ?_
  refine rc (fun KQ hKQ => ?_) AllReadyH.nil
  go_simp
  have CC := conf_any g c1 _ _ y42 ⟨_, _, _, _, kR, hR⟩ hG1.out.1.1
  refine (CC).mono ?_
  rintro e y43 ⟨rfl, hY⟩
  replace HC := HC.trans HN (Ch.of_below g _ hY)
  replace kC := kC.b hY
  replace kO := kO.b hY
  replace kR := kR.b hY
  replace hR := hR.below hY
  clear hY
  clear CC
  go_wp2_with fail
  refine hKQ.out _ _ (⟨by rw [hG1.out.2.2.1]; exact kC.cell 0, by rw [← htv.out, hG1.out.2.2.2.1]; exact kC.cell 2, by rw [← hwv.out]; exact kR.cell 5⟩) (fun _ => ?_)
  clear hKQ KQ
  try simp only [Act.put, ka, kb, kc]
  refine rr [4] ?_
  refine rc (fun KQ hKQ => ?_) AllReadyH.nil
  go_simp
  have CC := ref10.leads_any (conC c1) c1.id y43 hG1.out.1.2.2.2.2.1 (by have := hid.out; rw [hG1.out.2.2.1]; omega) (by have := hid.out; rw [hG1.out.2.2.1]; omega)
  rw [hlb.out] at CC
  refine (CC).mono ?_
  rintro e y44 ⟨rfl, hY⟩
  replace HC := HC.trans HN (Ch.of_below g _ hY)
  replace kC := kC.b hY
  replace kO := kO.b hY
  replace kR := kR.b hY
  replace hR := hR.below hY
  clear hY
  clear CC
  go_wp2_with fail
  refine hKQ.out _ _ (⟨by rw [hG1.out.2.2.1]; exact kC.cell 0, by rw [← htv.out, hG1.out.2.2.2.1]; exact kC.cell 2, by rw [← hwv.out]; exact kR.cell 5⟩) (fun _ => ?_)
  clear hKQ KQ
  try simp only [Act.put, ka, kb, kc]
  iterate 2 (refine tx 5 _ ?_; try simp only [Act.put, ka, kb, kc])
  refine kit.tv 7 ?_
  try simp only [Act.put, ka, kb, kc]
  refine kit.tv 8 ?_
  try simp only [Act.put, ka, kb, kc]
  refine kit.tv 9 ?_
  try simp only [Act.put, ka, kb, kc]
  refine kit.tv 10 ?_
  try simp only [Act.put, ka, kb, kc]
  refine kit.tv 11 ?_
  try simp only [Act.put, ka, kb, kc]
  refine kit.tv 12 ?_
  try simp only [Act.put, ka, kb, kc]
  refine kit.tv 13 ?_
  try simp only [Act.put, ka, kb, kc]
  refine kit.tv 14 ?_
  try simp only [Act.put, ka, kb, kc]
  refine kit.tv 15 ?_
  try simp only [Act.put, ka, kb, kc]
  iterate 2 (refine tx 16 _ ?_; try simp only [Act.put, ka, kb, kc])
  refine kit.tv 18 ?_
  try simp only [Act.put, ka, kb, kc]
  refine kit.tv 19 ?_
  try simp only [Act.put, ka, kb, kc]
  refine kit.tv 20 ?_
  try simp only [Act.put, ka, kb, kc]
  refine tj 21 _ ?_
  try simp only [Act.put, ka, kb, kc]
  refine wpAnyH_done (by kernel_rfl) ?_ _
  go_upto_region 12 with (first | refine lo_Cj kC ?_ | refine lo_cLj kC ?_ | refine lo_cJj kC ?_ | refine lo_Cj kO ?_ | refine lo_cLj kO ?_ | refine lo_cJj kO ?_ | refine lo_rLj kR ?_ | refine lo_rCj kR ?_)
  refine wp_region_held_drew (S := fun wq => Blk 99 wq g (rnC c1 (.slice A0 n0 p0) v0) ∧ wq.cell? ⟨g, 45, none⟩ = some v0) (by kernel_rfl) ?s_tck12a (fun hHeld => ?_)
  case s_tck12a => exact ⟨kR, kR.cell 45⟩
  have hD := (Below.refl y44.heap.size y44).drew
  replace HC := HC.trans HN (Ch.of_below g _ hD)
  replace kC := kC.b hD
  replace kO := kO.b hD
  replace kR := kR.b hD
  replace hR := hR.below hD
  clear hD
  generalize y44.drew = y45 at *
  iterate 3 (refine tx 0 _ ?_; try simp only [Act.put, ka, kb, kc])
  refine tj 3 _ ?_ (hy := fun wq hSw => rld_rC rfl rfl (And.left hSw))
  try simp only [Act.put, ka, kb, kc]
  iterate 4 (refine tx 4 _ ?_; try simp only [Act.put, ka, kb, kc])
  refine rr [8] ?_
  refine rc (fun KQ hKQ => ?_) AllReadyH.nil
  refine step_stAt rfl 33 _ _ rfl (cells := (crC c1 (.slice A0 n0 p0)).toArray) (crC c1 (.slice A0 n0 p0)) rfl rfl kO sizeCv (by show 0 + 45 ≤ 45; omega) (cr_one _) rfl ?_
  intro yz kO2 pO
  have kR2 := kR.put pO (Ne.symm akO.1)
  have hR2 := hR.far pO (by rw [HN.2]; exact hzO.out)
  clear kO kR
  have kR := kR2
  clear kR2
  refine hKQ.out _ _ (⟨kR, kR.cell 45⟩) (fun _ => ?_)
  clear hKQ KQ
  try simp only [Act.put]
  refine tj 9 _ ?_
  try simp only [Act.put, ka, kb, kc]
  refine wpAnyH_done (by kernel_rfl) ?_ _
  go_wp2_with fail
  (try simp only [Exit.inBlock, Exit.then])
  refine bodyPost_ret (res2 Tryz.results18 rfl rfl (aggC _) (sizeC _) (ldCv kO2)) rfl ?_
  have hfin : tickF c = (c1, []) := by rw [hTE.out]; unfold tickE; rw [hlb.out]; rfl
  rw [hfin]
  have hR3 := hR2
  have HZ := HC.low (B := w.heap.size) (Nat.le_trans hlw.out hlg.out) (fun k h => by cases h) HB0.out.size
  exact ⟨_, _, _, _, rfl, hR2.rd, hR2.cap, RdMs.of_run hR2, pO.below _ _ (HB0.out.trans HZ) hwO.out⟩
 by_cases hlt : wv < pv
 ·
  refine wp_region_held_drew (S := fun wq => wq.cell? ⟨w.heap.size, 0, none⟩ = some (.int .i64 c1.id) ∧ wq.cell? ⟨w.heap.size, 2, none⟩ = some (.int .i64 tv) ∧ wq.cell? ⟨g, 5, none⟩ = some (.int .i64 wv)) (by kernel_rfl) ?s_tck11b (fun hHeld => ?_)
  case s_tck11b => exact ⟨by rw [hG1.out.2.2.1]; exact kC.cell 0, by rw [← htv.out, hG1.out.2.2.2.1]; exact kC.cell 2, by rw [← hwv.out]; exact kR.cell 5⟩
  have hD := (Below.refl y41.heap.size y41).drew
  replace HC := HC.trans HN (Ch.of_below g _ hD)
  replace kC := kC.b hD
  replace kO := kO.b hD
  replace kR := kR.b hD
  replace hR := hR.below hD
  clear hD
  generalize y41.drew = y42 at *
  refine tj 0 _ ?_
  try simp only [Act.put, ka, kb, kc]
  iterate 2 (refine tx 2 _ ?_; try simp only [Act.put, ka, kb, kc])
  refine rr [1] ?_
  refine rc (fun KQ hKQ => ?_) AllReadyH.nil
  go_simp
  have CC := conf_any g c1 _ _ y42 ⟨_, _, _, _, kR, hR⟩ hG1.out.1.1
  refine (CC).mono ?_
  rintro e y43 ⟨rfl, hY⟩
  replace HC := HC.trans HN (Ch.of_below g _ hY)
  replace kC := kC.b hY
  replace kO := kO.b hY
  replace kR := kR.b hY
  replace hR := hR.below hY
  clear hY
  clear CC
  go_wp2_with fail
  refine hKQ.out _ _ (⟨by rw [hG1.out.2.2.1]; exact kC.cell 0, by rw [← htv.out, hG1.out.2.2.2.1]; exact kC.cell 2, by rw [← hwv.out]; exact kR.cell 5⟩) (fun _ => ?_)
  clear hKQ KQ
  try simp only [Act.put, ka, kb, kc]
  refine rr [4] ?_
  refine rc (fun KQ hKQ => ?_) AllReadyH.nil
  go_simp
  have CC := ref10.leads_any (conC c1) c1.id y43 hG1.out.1.2.2.2.2.1 (by have := hid.out; rw [hG1.out.2.2.1]; omega) (by have := hid.out; rw [hG1.out.2.2.1]; omega)
  rw [hlb.out] at CC
  refine (CC).mono ?_
  rintro e y44 ⟨rfl, hY⟩
  replace HC := HC.trans HN (Ch.of_below g _ hY)
  replace kC := kC.b hY
  replace kO := kO.b hY
  replace kR := kR.b hY
  replace hR := hR.below hY
  clear hY
  clear CC
  go_wp2_with fail
  refine hKQ.out _ _ (⟨by rw [hG1.out.2.2.1]; exact kC.cell 0, by rw [← htv.out, hG1.out.2.2.2.1]; exact kC.cell 2, by rw [← hwv.out]; exact kR.cell 5⟩) (fun _ => ?_)
  clear hKQ KQ
  try simp only [Act.put, ka, kb, kc]
  iterate 9 (refine tx 5 _ ?_; try simp only [Act.put, ka, kb, kc])
  refine rr [14] ?_
  refine rc (fun KQ hKQ => ?_) AllReadyH.nil
  go_simp
  have CC := pat_any c1.id y44 (by have := hid.out; rw [hG1.out.2.2.1]; omega)
  rw [hpv.out] at CC
  refine CC.mono ?_
  rintro e2 y2 ⟨rfl, rfl⟩
  clear CC
  go_wp2_with fail
  refine hKQ.out _ _ (⟨by rw [hG1.out.2.2.1]; exact kC.cell 0, by rw [← htv.out, hG1.out.2.2.2.1]; exact kC.cell 2, by rw [← hwv.out]; exact kR.cell 5⟩) (fun _ => ?_)
  clear hKQ KQ
  try simp only [Act.put, ka, kb, kc]
  iterate 3 (refine tx 15 _ ?_; try simp only [Act.put, ka, kb, kc])
  refine kit.tv 18 ?_
  try simp only [Act.put, ka, kb, kc]
  refine kit.tv 19 ?_
  try simp only [Act.put, ka, kb, kc]
  refine kit.tv 20 ?_
  try simp only [Act.put, ka, kb, kc]
  refine tj 21 _ ?_
  try simp only [Act.put, ka, kb, kc]
  refine wpAnyH_done (by kernel_rfl) ?_ _
  go_upto_region 12 with (first | refine lo_Cj kC ?_ | refine lo_cLj kC ?_ | refine lo_cJj kC ?_ | refine lo_Cj kO ?_ | refine lo_cLj kO ?_ | refine lo_cJj kO ?_ | refine lo_rLj kR ?_ | refine lo_rCj kR ?_)
  refine wp_region_held_drew (S := fun wq => Blk 99 wq g (rnC c1 (.slice A0 n0 p0) v0) ∧ wq.cell? ⟨g, 45, none⟩ = some v0) (by kernel_rfl) ?s_tck12b (fun hHeld => ?_)
  case s_tck12b => exact ⟨kR, kR.cell 45⟩
  have hD := (Below.refl y44.heap.size y44).drew
  replace HC := HC.trans HN (Ch.of_below g _ hD)
  replace kC := kC.b hD
  replace kO := kO.b hD
  replace kR := kR.b hD
  replace hR := hR.below hD
  clear hD
  generalize y44.drew = y45 at *
  iterate 3 (refine tx 0 _ ?_; try simp only [Act.put, ka, kb, kc])
  refine tj 3 _ ?_ (hy := fun wq hSw => rld_rC rfl rfl (And.left hSw))
  try simp only [Act.put, ka, kb, kc]
  iterate 4 (refine tx 4 _ ?_; try simp only [Act.put, ka, kb, kc])
  refine rr [8] ?_
  refine rc (fun KQ hKQ => ?_) AllReadyH.nil
  refine step_stAt rfl 33 _ _ rfl (cells := (crC c1 (.slice A0 n0 p0)).toArray) (crC c1 (.slice A0 n0 p0)) rfl rfl kO sizeCv (by show 0 + 45 ≤ 45; omega) (cr_one _) rfl ?_
  intro yz kO2 pO
  have kR2 := kR.put pO (Ne.symm akO.1)
  have hR2 := hR.far pO (by rw [HN.2]; exact hzO.out)
  clear kO kR
  have kR := kR2
  clear kR2
  refine hKQ.out _ _ (⟨kR, kR.cell 45⟩) (fun _ => ?_)
  clear hKQ KQ
  try simp only [Act.put]
  refine tj 9 _ ?_
  try simp only [Act.put, ka, kb, kc]
  refine wpAnyH_done (by kernel_rfl) ?_ _
  go_wp2_with fail
  (try simp only [Exit.inBlock, Exit.then])
  refine bodyPost_ret (res2 Tryz.results18 rfl rfl (aggC _) (sizeC _) (ldCv kO2)) rfl ?_
  have hfin : tickF c = (c1, []) := by rw [hTE.out]; unfold tickE; rw [hlb.out, hpv.out, hwv.out, decide_eq_false (by omega)]; rfl
  rw [hfin]
  have hR3 := hR2
  have HZ := HC.low (B := w.heap.size) (Nat.le_trans hlw.out hlg.out) (fun k h => by cases h) HB0.out.size
  exact ⟨_, _, _, _, rfl, hR2.rd, hR2.cap, RdMs.of_run hR2, pO.below _ _ (HB0.out.trans HZ) hwO.out⟩
 have hlt2 := Lh hlt
 clear hlt
 by_cases hmx : (1099511627776 : Int) ≤ tv
 ·
  have hmg := Lh (show tv ≥ 1099511627776 from hmx)
  clear hmx
  refine wp_region_held_drew (S := fun wq => wq.cell? ⟨w.heap.size, 0, none⟩ = some (.int .i64 c1.id) ∧ wq.cell? ⟨w.heap.size, 2, none⟩ = some (.int .i64 tv) ∧ wq.cell? ⟨g, 5, none⟩ = some (.int .i64 wv)) (by kernel_rfl) ?s_tck11c (fun hHeld => ?_)
  case s_tck11c => exact ⟨by rw [hG1.out.2.2.1]; exact kC.cell 0, by rw [← htv.out, hG1.out.2.2.2.1]; exact kC.cell 2, by rw [← hwv.out]; exact kR.cell 5⟩
  have hD := (Below.refl y41.heap.size y41).drew
  replace HC := HC.trans HN (Ch.of_below g _ hD)
  replace kC := kC.b hD
  replace kO := kO.b hD
  replace kR := kR.b hD
  replace hR := hR.below hD
  clear hD
  generalize y41.drew = y42 at *
  refine tj 0 _ ?_
  try simp only [Act.put, ka, kb, kc]
  iterate 2 (refine tx 2 _ ?_; try simp only [Act.put, ka, kb, kc])
  refine rr [1] ?_
  refine rc (fun KQ hKQ => ?_) AllReadyH.nil
  go_simp
  have CC := conf_any g c1 _ _ y42 ⟨_, _, _, _, kR, hR⟩ hG1.out.1.1
  refine (CC).mono ?_
  rintro e y43 ⟨rfl, hY⟩
  replace HC := HC.trans HN (Ch.of_below g _ hY)
  replace kC := kC.b hY
  replace kO := kO.b hY
  replace kR := kR.b hY
  replace hR := hR.below hY
  clear hY
  clear CC
  go_wp2_with fail
  refine hKQ.out _ _ (⟨by rw [hG1.out.2.2.1]; exact kC.cell 0, by rw [← htv.out, hG1.out.2.2.2.1]; exact kC.cell 2, by rw [← hwv.out]; exact kR.cell 5⟩) (fun _ => ?_)
  clear hKQ KQ
  try simp only [Act.put, ka, kb, kc]
  refine rr [4] ?_
  refine rc (fun KQ hKQ => ?_) AllReadyH.nil
  go_simp
  have CC := ref10.leads_any (conC c1) c1.id y43 hG1.out.1.2.2.2.2.1 (by have := hid.out; rw [hG1.out.2.2.1]; omega) (by have := hid.out; rw [hG1.out.2.2.1]; omega)
  rw [hlb.out] at CC
  refine (CC).mono ?_
  rintro e y44 ⟨rfl, hY⟩
  replace HC := HC.trans HN (Ch.of_below g _ hY)
  replace kC := kC.b hY
  replace kO := kO.b hY
  replace kR := kR.b hY
  replace hR := hR.below hY
  clear hY
  clear CC
  go_wp2_with fail
  refine hKQ.out _ _ (⟨by rw [hG1.out.2.2.1]; exact kC.cell 0, by rw [← htv.out, hG1.out.2.2.2.1]; exact kC.cell 2, by rw [← hwv.out]; exact kR.cell 5⟩) (fun _ => ?_)
  clear hKQ KQ
  try simp only [Act.put, ka, kb, kc]
  iterate 9 (refine tx 5 _ ?_; try simp only [Act.put, ka, kb, kc])
  refine rr [14] ?_
  refine rc (fun KQ hKQ => ?_) AllReadyH.nil
  go_simp
  have CC := pat_any c1.id y44 (by have := hid.out; rw [hG1.out.2.2.1]; omega)
  rw [hpv.out] at CC
  refine CC.mono ?_
  rintro e2 y2 ⟨rfl, rfl⟩
  clear CC
  go_wp2_with fail
  refine hKQ.out _ _ (⟨by rw [hG1.out.2.2.1]; exact kC.cell 0, by rw [← htv.out, hG1.out.2.2.2.1]; exact kC.cell 2, by rw [← hwv.out]; exact kR.cell 5⟩) (fun _ => ?_)
  clear hKQ KQ
  try simp only [Act.put, ka, kb, kc]
  refine tj 15 ((.bool false)) ?_ (hy := fun wq hSw => rb_lss rfl rfl rfl (decide_eq_false (by have := hlt2.out; omega)))
  try simp only [Act.put, ka, kb, kc]
  iterate 4 (refine tx 16 _ ?_; try simp only [Act.put, ka, kb, kc])
  refine tj 20 ((.bool true)) ?_ (hy := fun wq hSw => rb_geq rfl rfl rfl (decide_eq_true (by have := hmg.out; omega)))
  try simp only [Act.put, ka, kb, kc]
  refine tj 21 _ ?_
  try simp only [Act.put, ka, kb, kc]
  refine wpAnyH_done (by kernel_rfl) ?_ _
  go_upto_region 12 with (first | refine lo_Cj kC ?_ | refine lo_cLj kC ?_ | refine lo_cJj kC ?_ | refine lo_Cj kO ?_ | refine lo_cLj kO ?_ | refine lo_cJj kO ?_ | refine lo_rLj kR ?_ | refine lo_rCj kR ?_)
  refine wp_region_held_drew (S := fun wq => Blk 99 wq g (rnC c1 (.slice A0 n0 p0) v0) ∧ wq.cell? ⟨g, 45, none⟩ = some v0) (by kernel_rfl) ?s_tck12c (fun hHeld => ?_)
  case s_tck12c => exact ⟨kR, kR.cell 45⟩
  have hD := (Below.refl y44.heap.size y44).drew
  replace HC := HC.trans HN (Ch.of_below g _ hD)
  replace kC := kC.b hD
  replace kO := kO.b hD
  replace kR := kR.b hD
  replace hR := hR.below hD
  clear hD
  generalize y44.drew = y45 at *
  iterate 3 (refine tx 0 _ ?_; try simp only [Act.put, ka, kb, kc])
  refine tj 3 _ ?_ (hy := fun wq hSw => rld_rC rfl rfl (And.left hSw))
  try simp only [Act.put, ka, kb, kc]
  iterate 4 (refine tx 4 _ ?_; try simp only [Act.put, ka, kb, kc])
  refine rr [8] ?_
  refine rc (fun KQ hKQ => ?_) AllReadyH.nil
  refine step_stAt rfl 33 _ _ rfl (cells := (crC c1 (.slice A0 n0 p0)).toArray) (crC c1 (.slice A0 n0 p0)) rfl rfl kO sizeCv (by show 0 + 45 ≤ 45; omega) (cr_one _) rfl ?_
  intro yz kO2 pO
  have kR2 := kR.put pO (Ne.symm akO.1)
  have hR2 := hR.far pO (by rw [HN.2]; exact hzO.out)
  clear kO kR
  have kR := kR2
  clear kR2
  refine hKQ.out _ _ (⟨kR, kR.cell 45⟩) (fun _ => ?_)
  clear hKQ KQ
  try simp only [Act.put]
  refine tj 9 _ ?_
  try simp only [Act.put, ka, kb, kc]
  refine wpAnyH_done (by kernel_rfl) ?_ _
  go_wp2_with fail
  (try simp only [Exit.inBlock, Exit.then])
  refine bodyPost_ret (res2 Tryz.results18 rfl rfl (aggC _) (sizeC _) (ldCv kO2)) rfl ?_
  have hfin : tickF c = (c1, []) := by rw [hTE.out]; unfold tickE; rw [hlb.out, htv.out, decide_eq_false (p := tv < 1099511627776) (by have := hmg.out; omega), Bool.and_false]; rfl
  rw [hfin]
  have hR3 := hR2
  have HZ := HC.low (B := w.heap.size) (Nat.le_trans hlw.out hlg.out) (fun k h => by cases h) HB0.out.size
  exact ⟨_, _, _, _, rfl, hR2.rd, hR2.cap, RdMs.of_run hR2, pO.below _ _ (HB0.out.trans HZ) hwO.out⟩
 have hmg := Lh (show ¬ tv ≥ 1099511627776 from hmx)
 clear hmx
 refine wp_region_held_drew (S := fun wq => wq.cell? ⟨w.heap.size, 0, none⟩ = some (.int .i64 c1.id) ∧ wq.cell? ⟨w.heap.size, 2, none⟩ = some (.int .i64 tv) ∧ wq.cell? ⟨g, 5, none⟩ = some (.int .i64 wv)) (by kernel_rfl) ?s_tck11d (fun hHeld => ?_)
 case s_tck11d => exact ⟨by rw [hG1.out.2.2.1]; exact kC.cell 0, by rw [← htv.out, hG1.out.2.2.2.1]; exact kC.cell 2, by rw [← hwv.out]; exact kR.cell 5⟩
 have hD := (Below.refl y41.heap.size y41).drew
 replace HC := HC.trans HN (Ch.of_below g _ hD)
 replace kC := kC.b hD
 replace kO := kO.b hD
 replace kR := kR.b hD
 replace hR := hR.below hD
 clear hD
 generalize y41.drew = y42 at *
 refine tj 0 _ ?_
 try simp only [Act.put, ka, kb, kc]
 iterate 2 (refine tx 2 _ ?_; try simp only [Act.put, ka, kb, kc])
 refine rr [1] ?_
 refine rc (fun KQ hKQ => ?_) AllReadyH.nil
 go_simp
 have CC := conf_any g c1 _ _ y42 ⟨_, _, _, _, kR, hR⟩ hG1.out.1.1
 refine (CC).mono ?_
 rintro e y43 ⟨rfl, hY⟩
 replace HC := HC.trans HN (Ch.of_below g _ hY)
 replace kC := kC.b hY
 replace kO := kO.b hY
 replace kR := kR.b hY
 replace hR := hR.below hY
 clear hY
 clear CC
 go_wp2_with fail
 refine hKQ.out _ _ (⟨by rw [hG1.out.2.2.1]; exact kC.cell 0, by rw [← htv.out, hG1.out.2.2.2.1]; exact kC.cell 2, by rw [← hwv.out]; exact kR.cell 5⟩) (fun _ => ?_)
 clear hKQ KQ
 try simp only [Act.put, ka, kb, kc]
 refine rr [4] ?_
 refine rc (fun KQ hKQ => ?_) AllReadyH.nil
 go_simp
 have CC := ref10.leads_any (conC c1) c1.id y43 hG1.out.1.2.2.2.2.1 (by have := hid.out; rw [hG1.out.2.2.1]; omega) (by have := hid.out; rw [hG1.out.2.2.1]; omega)
 rw [hlb.out] at CC
 refine (CC).mono ?_
 rintro e y44 ⟨rfl, hY⟩
 replace HC := HC.trans HN (Ch.of_below g _ hY)
 replace kC := kC.b hY
 replace kO := kO.b hY
 replace kR := kR.b hY
 replace hR := hR.below hY
 clear hY
 clear CC
 go_wp2_with fail
 refine hKQ.out _ _ (⟨by rw [hG1.out.2.2.1]; exact kC.cell 0, by rw [← htv.out, hG1.out.2.2.2.1]; exact kC.cell 2, by rw [← hwv.out]; exact kR.cell 5⟩) (fun _ => ?_)
 clear hKQ KQ
 try simp only [Act.put, ka, kb, kc]
 iterate 9 (refine tx 5 _ ?_; try simp only [Act.put, ka, kb, kc])
 refine rr [14] ?_
 refine rc (fun KQ hKQ => ?_) AllReadyH.nil
 go_simp
 have CC := pat_any c1.id y44 (by have := hid.out; rw [hG1.out.2.2.1]; omega)
 rw [hpv.out] at CC
 refine CC.mono ?_
 rintro e2 y2 ⟨rfl, rfl⟩
 clear CC
 go_wp2_with fail
 refine hKQ.out _ _ (⟨by rw [hG1.out.2.2.1]; exact kC.cell 0, by rw [← htv.out, hG1.out.2.2.2.1]; exact kC.cell 2, by rw [← hwv.out]; exact kR.cell 5⟩) (fun _ => ?_)
 clear hKQ KQ
 try simp only [Act.put, ka, kb, kc]
 refine tj 15 ((.bool false)) ?_ (hy := fun wq hSw => rb_lss rfl rfl rfl (decide_eq_false (by have := hlt2.out; omega)))
 try simp only [Act.put, ka, kb, kc]
 iterate 4 (refine tx 16 _ ?_; try simp only [Act.put, ka, kb, kc])
 refine tj 20 ((.bool false)) ?_ (hy := fun wq hSw => rb_geq rfl rfl rfl (decide_eq_false (by have := hmg.out; omega)))
 try simp only [Act.put, ka, kb, kc]
 refine tj 21 _ ?_
 try simp only [Act.put, ka, kb, kc]
 refine wpAnyH_done (by kernel_rfl) ?_ _
 have hTD : Hid (tickF c = if elJ (conC (standC c1)) (standC c1).vs then winsF (standC c1) else (standC c1, ((listF (unF (conC (standC c1)) votF)).filter (fun n => !(n == (standC c1).id))).map (fun n => sayF (standC c1) n (askM (standC c1))))) := by
  show _ = _
  rw [hTE.out]; unfold tickE; rw [hlb.out, hpv.out, hwv.out, htv.out, decide_eq_true (p := pv ≤ wv) (by have := hlt2.out; omega), decide_eq_true (p := tv < 1099511627776) (by have := hmg.out; omega)]; rfl
 have wt : IntKind.i64.wrap (tv + 1) = tv + 1 := by have := htv1.out; rw [wrap_sm (by omega) (by omega)]
 have cR : y44.cell? ⟨g, 2, none⟩ = some (.int .i64 tv) := by rw [← htv.out]; exact kR.cell 2
 have df := fun i => kR.frozen i
 clear hmg
 go_upto_region 14 with (fail)
 clear df cR
 have kR2 : Blk 99 _ g (rnC { c1 with tm := c1.tm + 1 } (.slice A0 n0 p0) v0) := (by rw [htv.out]; exact kR.set_ 2 (.int .i64 (tv + 1)))
 have pO := put_set y44 g (2) (.int .i64 (tv + 1))
 clear kR
 generalize (y44.setCell ⟨g, 2, none⟩ (.int .i64 (tv + 1))) = y45 at *
 replace kC := kC.put pO akC.1
 replace kO := kO.put pO akO.1
 replace hR := hR.put pO
 replace HC := HC.trans HN (Ch.of_put _ pO pO.low)
 have kR := kR2
 clear kR2 pO
 refine wp_region_held_drew (S := fun wq => wq.cell? ⟨w.heap.size, 0, none⟩ = some (.int .i64 c1.id)) (by kernel_rfl) ?s_tck14 (fun hHeld => ?_)
 case s_tck14 => exact (by rw [hG1.out.2.2.1]; exact kC.cell 0)
 have hD := (Below.refl y45.heap.size y45).drew
 replace HC := HC.trans HN (Ch.of_below g _ hD)
 replace kC := kC.b hD
 replace kO := kO.b hD
 replace kR := kR.b hD
 replace hR := hR.below hD
 clear hD
 generalize y45.drew = y46 at *
 iterate 9 (refine tx 0 _ ?_; try simp only [Act.put, ka, kb, kc])
 refine rr [9] ?_
 refine rc (fun KQ hKQ => ?_) AllReadyH.nil
 go_simp
 have CC := ref9.with_any 0 c1.id y46 (by omega) (by have := hid.out; rw [hG1.out.2.2.1]; omega) (by have := hid.out; rw [hG1.out.2.2.1]; omega)
 refine CC.mono ?_
 rintro e2 y2 ⟨rfl, rfl⟩
 clear CC
 go_wp2_with fail
 refine hKQ.out _ _ ((by rw [hG1.out.2.2.1]; exact kC.cell 0)) (fun _ => ?_)
 clear hKQ KQ
 try simp only [Act.put, ka, kb, kc]
 iterate 3 (refine tx 10 _ ?_; try simp only [Act.put, ka, kb, kc])
 refine rr [13] ?_
 refine rc (fun KQ hKQ => ?_) AllReadyH.nil
 have df := fun i => kR.frozen i
 have cR : _ = some _ := kR.cell 1
 go_simp
 clear df cR
 have kR2 : Blk 99 _ g (rnC { c1 with tm := c1.tm + 1, ro := 1 } (.slice A0 n0 p0) v0) := kR.set_ 1 (.int .i64 1)
 have pO := put_set y46 g (1) (.int .i64 1)
 clear kR
 generalize (y46.setCell ⟨g, 1, none⟩ (.int .i64 1)) = y47 at *
 replace kC := kC.put pO akC.1
 replace kO := kO.put pO akO.1
 replace hR := hR.put pO
 replace HC := HC.trans HN (Ch.of_put _ pO pO.low)
 have kR := kR2
 clear kR2 pO
 refine hKQ.out _ _ ((by rw [hG1.out.2.2.1]; exact kC.cell 0)) (fun _ => ?_)
 clear hKQ KQ
 try simp only [Act.put]
 iterate 3 (refine tx 14 _ ?_; try simp only [Act.put, ka, kb, kc])
 refine rr [17] ?_
 refine rc (fun KQ hKQ => ?_) AllReadyH.nil
 have df := fun i => kR.frozen i
 have cR : _ = some _ := kR.cell 3
 go_simp
 clear df cR
 have kR2 : Blk 99 _ g (rnC { c1 with tm := c1.tm + 1, ro := 1, vo := c1.id } (.slice A0 n0 p0) v0) := kR.set_ 3 (.int .i64 c1.id)
 have pO := put_set y47 g (3) (.int .i64 c1.id)
 clear kR
 generalize (y47.setCell ⟨g, 3, none⟩ (.int .i64 c1.id)) = y48 at *
 replace kC := kC.put pO akC.1
 replace kO := kO.put pO akO.1
 replace hR := hR.put pO
 replace HC := HC.trans HN (Ch.of_put _ pO pO.low)
 have kR := kR2
 clear kR2 pO
 refine hKQ.out _ _ ((by rw [hG1.out.2.2.1]; exact kC.cell 0)) (fun _ => ?_)
 clear hKQ KQ
 try simp only [Act.put]
 iterate 3 (refine tx 18 _ ?_; try simp only [Act.put, ka, kb, kc])
 refine rr [21] ?_
 refine rc (fun KQ hKQ => ?_) AllReadyH.nil
 have df := fun i => kR.frozen i
 have cR : _ = some _ := kR.cell 23
 go_simp
 clear df cR
 have kR2 : Blk 99 _ g (rnC { c1 with tm := c1.tm + 1, ro := 1, vo := c1.id, vs := withF 0 c1.id } (.slice A0 n0 p0) v0) := kR.set_ 23 (.int .u16 ((withF 0 c1.id : Nat) : Int))
 have pO := put_set y48 g (23) (.int .u16 ((withF 0 c1.id : Nat) : Int))
 clear kR
 generalize (y48.setCell ⟨g, 23, none⟩ (.int .u16 ((withF 0 c1.id : Nat) : Int))) = y49 at *
 replace kC := kC.put pO akC.1
 replace kO := kO.put pO akO.1
 replace hR := hR.put pO
 replace HC := HC.trans HN (Ch.of_put _ pO pO.low)
 have kR := kR2
 clear kR2 pO
 refine hKQ.out _ _ ((by rw [hG1.out.2.2.1]; exact kC.cell 0)) (fun _ => ?_)
 clear hKQ KQ
 try simp only [Act.put]
 iterate 3 (refine tx 22 _ ?_; try simp only [Act.put, ka, kb, kc])
 refine rr [25] ?_
 refine rc (fun KQ hKQ => ?_) AllReadyH.nil
 have df := fun i => kR.frozen i
 have cR : _ = some _ := kR.cell 4
 go_simp
 clear df cR
 have kR2 : Blk 99 _ g (rnC { c1 with tm := c1.tm + 1, ro := 1, vo := c1.id, vs := withF 0 c1.id, le := 0 } (.slice A0 n0 p0) v0) := kR.set_ 4 (.int .i64 0)
 have pO := put_set y49 g (4) (.int .i64 0)
 clear kR
 generalize (y49.setCell ⟨g, 4, none⟩ (.int .i64 0)) = y50 at *
 replace kC := kC.put pO akC.1
 replace kO := kO.put pO akO.1
 replace hR := hR.put pO
 replace HC := HC.trans HN (Ch.of_put _ pO pO.low)
 have kR := kR2
 clear kR2 pO
 refine hKQ.out _ _ ((by rw [hG1.out.2.2.1]; exact kC.cell 0)) (fun _ => ?_)
 clear hKQ KQ
 try simp only [Act.put]
 iterate 3 (refine tx 26 _ ?_; try simp only [Act.put, ka, kb, kc])
 refine rr [29] ?_
 refine rc (fun KQ hKQ => ?_) AllReadyH.nil
 have df := fun i => kR.frozen i
 have cR : _ = some _ := kR.cell 5
 go_simp
 clear df cR
 have kR2 : Blk 99 _ g (rnC (standC c1) (.slice A0 n0 p0) v0) := kR.set_ 5 (.int .i64 0)
 have pO := put_set y50 g (5) (.int .i64 0)
 clear kR
 generalize (y50.setCell ⟨g, 5, none⟩ (.int .i64 0)) = y51 at *
 replace kC := kC.put pO akC.1
 replace kO := kO.put pO akO.1
 replace hR := hR.put pO
 replace HC := HC.trans HN (Ch.of_put _ pO pO.low)
 have kR := kR2
 clear kR2 pO
 refine hKQ.out _ _ ((by rw [hG1.out.2.2.1]; exact kC.cell 0)) (fun _ => ?_)
 clear hKQ KQ
 try simp only [Act.put]
 refine wpAnyH_done (by kernel_rfl) ?_ _
 obtain ⟨D, hD⟩ : ∃ q, standC c1 = q := ⟨_, rfl⟩
 have hGD : Hid (GoodN D 700000 ∧ D.id = c1.id ∧ lastF D.lg ≤ 2199023255550 ∧ D.vs < 65536 ∧ D.lg = c.lg) := by show _ ∧ _; rw [← hD]; exact ⟨hG1.out.1, rfl, by show lastF c1.lg ≤ _; rw [hG1.out.2.1]; exact HK.out.la, withF_lt _ (by omega), hG1.out.2.1⟩
 rw [hD] at kR hTD
 have hesD : c1.lg.es = D.lg.es := by rw [← hD]; rfl
 rw [hesD] at hR
 clear hesD wt
 replace hD := Lh hD
 obtain ⟨el, hel⟩ : ∃ q, elJ (conC D) D.vs = q := ⟨_, rfl⟩
 rw [hel] at hTD
 replace hel := Lh hel
 go_upto_region 15 with (first | refine lo_Cj kC ?_ | refine lo_cLj kC ?_ | refine lo_cJj kC ?_ | refine lo_Cj kO ?_ | refine lo_cLj kO ?_ | refine lo_cJj kO ?_ | refine lo_rLj kR ?_ | refine lo_rCj kR ?_)
 refine wp_region_held_drew (S := fun wq => wq.cell? ⟨g, 23, none⟩ = some (.int .u16 (D.vs : Int))) (by kernel_rfl) ?s_tck15 (fun hHeld => ?_)
 case s_tck15 => exact kR.cell 23
 have hD := (Below.refl y51.heap.size y51).drew
 replace HC := HC.trans HN (Ch.of_below g _ hD)
 replace kC := kC.b hD
 replace kO := kO.b hD
 replace kR := kR.b hD
 replace hR := hR.below hD
 clear hD
 generalize y51.drew = y52 at *
 refine tj 0 _ ?_
 try simp only [Act.put, ka, kb, kc]
 iterate 5 (refine tx 2 _ ?_; try simp only [Act.put, ka, kb, kc])
 refine rr [1] ?_
 refine rc (fun KQ hKQ => ?_) AllReadyH.nil
 go_simp
 have CC := conf_any g D _ _ y52 ⟨_, _, _, _, kR, hR⟩ hGD.out.1.1
 refine (CC).mono ?_
 rintro e y53 ⟨rfl, hY⟩
 replace HC := HC.trans HN (Ch.of_below g _ hY)
 replace kC := kC.b hY
 replace kO := kO.b hY
 replace kR := kR.b hY
 replace hR := hR.below hY
 clear hY
 clear CC
 go_wp2_with fail
 refine hKQ.out _ _ (kR.cell 23) (fun _ => ?_)
 clear hKQ KQ
 try simp only [Act.put, ka, kb, kc]
 refine rr [7] ?_
 refine rc (fun KQ hKQ => ?_) AllReadyH.nil
 go_simp
 have CC := ref10.elects_any (conC D) D.vs y53 hGD.out.1.2.2.2.2.1 hGD.out.2.2.2.1
 rw [hel.out] at CC
 refine (CC).mono ?_
 rintro e y54 ⟨rfl, hY⟩
 replace HC := HC.trans HN (Ch.of_below g _ hY)
 replace kC := kC.b hY
 replace kO := kO.b hY
 replace kR := kR.b hY
 replace hR := hR.below hY
 clear hY
 clear CC
 go_wp2_with fail
 refine hKQ.out _ _ (kR.cell 23) (fun _ => ?_)
 clear hKQ KQ
 try simp only [Act.put, ka, kb, kc]
 refine wpAnyH_done (by kernel_rfl) ?_ _
 rcases el with _ | _
 rotate_left
 ·
  go_wp2_with (first | refine lo_Cj kC ?_ | refine lo_cLj kC ?_ | refine lo_cJj kC ?_ | refine lo_Cj kO ?_ | refine lo_cLj kO ?_ | refine lo_cJj kO ?_ | refine lo_rLj kR ?_ | refine lo_rCj kR ?_)
  refine (wins_any g D _ _ y54 ⟨_, _, _, _, kR, hR⟩ hGD.out.1 hGD.out.2.2.1 (Nat.zero_le _)).mono ?_
  rintro e y55 ⟨rfl, o55, ⟨A55, n55, p55, v55, kR2, hR2⟩, hc, hn⟩
  have a2 := akC.next hn kC.lt
  replace kC := kC.ch hc akC
  replace akC := a2
  clear a2
  have a2 := akO.next hn kO.lt
  replace kO := kO.ch hc akO
  replace akO := a2
  clear a2
  have HN2 := HN.trans HC.size hn
  replace HC := HC.trans HN hc
  replace HN := HN2
  clear HN2 kR hR hc hn
  have kR := kR2
  have hR := hR2
  clear kR2 hR2
  go_upto_region 17 with (first | refine lo_Cj kC ?_ | refine lo_cLj kC ?_ | refine lo_cJj kC ?_ | refine lo_Cj kO ?_ | refine lo_cLj kO ?_ | refine lo_cJj kO ?_ | refine lo_rLj kR ?_ | refine lo_rCj kR ?_)
  refine wp_region_held_drew (S := fun wq => Blk 99 wq g (rnC (winC D) (.slice A55 n55 p55) v55) ∧ wq.cell? ⟨g, 45, none⟩ = some v55) (by kernel_rfl) ?s_tck17 (fun hHeld => ?_)
  case s_tck17 => exact ⟨kR, kR.cell 45⟩
  have hD := (Below.refl y55.heap.size y55).drew
  replace HC := HC.trans HN (Ch.of_below g _ hD)
  replace kC := kC.b hD
  replace kO := kO.b hD
  replace kR := kR.b hD
  replace hR := hR.below hD
  clear hD
  generalize y55.drew = y56 at *
  iterate 3 (refine tx 0 _ ?_; try simp only [Act.put, ka, kb, kc])
  refine tj 3 _ ?_ (hy := fun wq hSw => rld_rC rfl rfl (And.left hSw))
  try simp only [Act.put, ka, kb, kc]
  iterate 4 (refine tx 4 _ ?_; try simp only [Act.put, ka, kb, kc])
  refine rr [8] ?_
  refine rc (fun KQ hKQ => ?_) AllReadyH.nil
  refine step_stAt rfl 33 _ _ rfl (cells := (crC (winC D) (.slice A55 n55 p55)).toArray) (crC (winC D) (.slice A55 n55 p55)) rfl rfl kO sizeCv (by show 0 + 45 ≤ 45; omega) (cr_one _) rfl ?_
  intro yz kO2 pO
  have kR2 := kR.put pO (Ne.symm akO.1)
  have hR2 := hR.far pO (by rw [HN.2]; exact hzO.out)
  clear kO kR
  have kR := kR2
  clear kR2
  refine hKQ.out _ _ (⟨kR, kR.cell 45⟩) (fun _ => ?_)
  clear hKQ KQ
  try simp only [Act.put]
  refine tj 9 _ ?_
  try simp only [Act.put, ka, kb, kc]
  refine wpAnyH_done (by kernel_rfl) ?_ _
  go_wp2_with fail
  (try simp only [Exit.inBlock, Exit.then])
  refine bodyPost_ret (res2 Tryz.results18 rfl rfl (aggC _) (sizeC _) (ldCv kO2)) rfl ?_
  have hfin : tickF c = (winC D, [] ++ allF (winC D)) := by rw [hTD.out]; rfl
  rw [hfin]
  have hR3 := hR2
  have HZ := HC.low (B := w.heap.size) (Nat.le_trans hlw.out hlg.out) (fun k h => by cases h) HB0.out.size
  exact ⟨_, _, _, _, rfl, hR2.rd, hR2.cap, RdMs.of_run hR2, pO.below _ _ (HB0.out.trans HZ) hwO.out⟩
 go_wp2_with (first | refine lo_Cj kC ?_ | refine lo_cLj kC ?_ | refine lo_cJj kC ?_ | refine lo_Cj kO ?_ | refine lo_cLj kO ?_ | refine lo_cJj kO ?_ | refine lo_rLj kR ?_ | refine lo_rCj kR ?_)
 have CC := conf_any g D _ _ y54 ⟨_, _, _, _, kR, hR⟩ hGD.out.1.1
 refine (CC).mono ?_
 rintro e y55 ⟨rfl, hY⟩
 replace HC := HC.trans HN (Ch.of_below g _ hY)
 replace kC := kC.b hY
 replace kO := kO.b hY
 replace kR := kR.b hY
 replace hR := hR.below hY
 clear hY
 clear CC
 go_wp2_with (first | refine lo_Cj kC ?_ | refine lo_cLj kC ?_ | refine lo_cJj kC ?_ | refine lo_Cj kO ?_ | refine lo_cLj kO ?_ | refine lo_cJj kO ?_ | refine lo_rLj kR ?_ | refine lo_rCj kR ?_)
 have CC := ref10.voting_any (conC D) y55 hGD.out.1.2.2.2.2.1 hGD.out.1.2.2.2.2.2.1
 refine (CC).mono ?_
 rintro e y56 ⟨rfl, hY⟩
 replace HC := HC.trans HN (Ch.of_below g _ hY)
 replace kC := kC.b hY
 replace kO := kO.b hY
 replace kR := kR.b hY
 replace hR := hR.below hY
 clear hY
 clear CC
 go_wp2_with (first | refine lo_Cj kC ?_ | refine lo_cLj kC ?_ | refine lo_cJj kC ?_ | refine lo_Cj kO ?_ | refine lo_cLj kO ?_ | refine lo_cJj kO ?_ | refine lo_rLj kR ?_ | refine lo_rCj kR ?_)
 have hl9 := ref9.list_len (unF (conC D) votF)
 have HL := Lh (fun z (hz : z ∈ listF (unF (conC D) votF)) => ref9.list_node hz)
 have CC := ref9.list_any (unF (conC D) votF) y56 (un_lt (vot_lt hGD.out.1.2.2.2.2.1.1) (vot_lt hGD.out.1.2.2.2.2.1.2))
 unfold ref9.IsIs at CC
 obtain ⟨l, hll⟩ : ∃ z, listF (unF (conC D) votF) = z := ⟨_, rfl⟩
 rw [hll] at hl9 HL CC hTD
 replace hll := Lh hll
 obtain ⟨N, hN⟩ : ∃ k, l.length = k := ⟨_, rfl⟩
 rw [hN] at hl9 CC
 replace hN := Lh hN
 have hTA : Hid (tickF c = (D, askedF D (l.take N))) := by show _ = _; rw [hTD.out, ← hN.out, List.take_length]; rfl
 clear hTD
 refine CC.mono ?_
 rintro e2 y57 ⟨A5, c5, rfl, hO5, hY⟩
 clear CC
 have hg5 := Lh kR.lt
 have ho5 := Lh (fun k hk => (hR.row k hk).2)
 replace HC := HC.trans HN (Ch.of_below g _ hY)
 replace kC := kC.b hY
 replace kO := kO.b hY
 replace kR := kR.b hY
 replace hR := hR.below hY
 clear hY
 have hY5 := RdY.of_own hO5 (by rw [ref9.i64s_length]; exact hN.out) hg5.out ho5.out
 clear hO5 hg5 ho5
 have BI : Hid (RunI y57 g D [] ⟨none, lo⟩) := ⟨_, _, _, _, kR, hR⟩
 have BY := Lh hY5
 have BC := Lh HC
 have BN := Lh HN
 have BkC := Lh kC
 have BkO := Lh kO
 have hzg := Lh (Nat.lt_of_lt_of_le hzC.out hlg.out)
 have hzg2 := Lh (Nat.lt_of_lt_of_le hzO.out hlg.out)
 clear kR hR hY5 HC HN kC kO akC akO
 go_wp2_with fail
 go_loopw [6] (fun iv wr => ∃ (k : Nat) (o1 : Rw), k ≤ N ∧ iv = .int .i64 (k : Int) ∧ Hid (RunI wr g D (askedF D (l.take k)) o1) ∧ Hid (RdY wr g o1 A5 N (ref9.i64s l)) ∧ Hid (Ch g ⟨none, lo⟩ yB wr) ∧ Hid (Nx ⟨none, lo⟩ o1 yB) ∧ Hid (Blk 33 wr w.heap.size (crC c (.slice A n p))) ∧ Hid (Blk 33 wr gkO (crC zC (.slice none 0 0)))) (fun iv _ => N - (intOf iv).toNat)
 case atStart => exact ⟨0, _, by omega, rfl, BI, BY, BC, BN, BkC, BkO⟩
 case round =>
  obtain ⟨k, o1, hk, rfl, HI1, HY1, HC1, HN1, HkC, HkO⟩ := hrel
  obtain ⟨A0, n0, p0, v0, kR, hR⟩ := HI1.out
  have hY5 := HY1.out
  have HC := HC1.out
  have HN := HN1.out
  have kC := HkC.out
  have kO := HkO.out
  have akC : Ap g o1 w.heap.size := Ap.below hzg.out (fun k hk => (hR.row k hk).1)
  have akO : Ap g o1 gkO := Ap.below hzg2.out (fun k hk => (hR.row k hk).1)
  clear HI1 HY1 HC1 HN1 HkC HkO BI BY BC BN BkC BkO
  by_cases hkN : k < N
  ·
   have ck : (k : Int) < (N : Int) := by omega
   have c0k : (0 : Int) ≤ (k : Int) := by omega
   have wk : IntKind.i64.wrap ((k : Int) + 1) = ((k + 1 : Nat) : Int) := by rw [wrap_sm (by omega) (by omega)]; omega
   obtain ⟨pl, ol, z, hA5, hz, cz⟩ := ref9.rdv_at hY5.1 k hkN
   subst hA5
   have hz9 := HL.out z (List.mem_of_getElem? hz)
   have hlen : (askedF D (l.take k)).length ≤ 1000 := by have := asked_len D (l.take k); rw [List.length_take] at this; omega
   replace hlen := Lh hlen
   replace hz := Lh hz
   replace hz9 := Lh hz9
   obtain ⟨id, hidd⟩ : ∃ z, D.id = z := ⟨_, rfl⟩
   replace hidd := Lh hidd
   have hidc : Hid (c.id = id) := by show _ = _; rw [← hidd.out, hGD.out.2.1, hG1.out.2.2.1]
   clear cz
   go_upto_region 22 with (first | refine lo_Cj kC ?_ | refine lo_cLj kC ?_ | refine lo_cJj kC ?_ | refine lo_Cj kO ?_ | refine lo_cLj kO ?_ | refine lo_cJj kO ?_ | refine lo_rLj kR ?_ | refine lo_rCj kR ?_)
   refine wp_region_held_drew (S := fun wq => wq.cell? ⟨pl, ol + k, none⟩ = some (.int .i64 z) ∧ wq.cell? ⟨w.heap.size, 0, none⟩ = some (.int .i64 id)) (by kernel_rfl) ?s_tck22 (fun hHeld => ?_)
   case s_tck22 => exact ⟨by obtain ⟨a1, a2, a3, b1, b2, b3⟩ := ref9.rdv_at hY5.1 k hkN; injection b1 with b1; injection b1 with b4 b5; subst b4; subst b5; rw [hz.out] at b2; rw [Option.some.inj b2]; exact b3, by rw [← hidc.out]; exact kC.cell 0⟩
   have hD := (Below.refl wr.heap.size wr).drew
   replace HC := HC.trans HN (Ch.of_below g _ hD)
   replace kC := kC.b hD
   replace kO := kO.b hD
   replace kR := kR.b hD
   replace hR := hR.below hD
   replace hY5 := hY5.below hD
   clear hD
   generalize wr.drew = y131 at *
   iterate 7 (refine tx 0 _ ?_; try simp only [Act.put, ka, kb, kc])
   refine wpAnyH_done (by kernel_rfl) ?_ _
   by_cases hne : z = id
   ·
    have hbn : (z != id) = false := by simp [hne]
    replace hne := Lh hne
    go_wp2_with fail
    go_roundw
    case rel => exact ⟨k + 1, _, by omega, rfl, (by show RunI _ _ _ _ _; rw [asked_no hz.out (hne.out.trans hidd.out.symm)]; exact ⟨_, _, _, _, kR, hR⟩), Lh hY5, Lh HC, Lh HN, Lh kC, Lh kO⟩
    case measure => simp only [intOf]; omega
   have hbn : (z != id) = true := by simp [hne]
   go_upto_region 23 with (first | refine lo_Cj kC ?_ | refine lo_cLj kC ?_ | refine lo_cJj kC ?_ | refine lo_Cj kO ?_ | refine lo_cLj kO ?_ | refine lo_cJj kO ?_ | refine lo_rLj kR ?_ | refine lo_rCj kR ?_)
   refine tail.region (S := fun wq => At wq g 8 (lgC D.lg (.slice A0 n0 p0)) ∧ wq.cell? ⟨g, 6, none⟩ = some (.int .i64 D.cm) ∧ wq.cell? ⟨pl, ol + k, none⟩ = some (.int .i64 z)) [23] (by kernel_rfl) (?sT) (fun hHeld => ?_)
   case sT => exact ⟨(by have h := at_rL kR.drew; exact h), kR.drew.cell 6, by obtain ⟨a1, a2, a3, b1, b2, b3⟩ := ref9.rdv_at (hY5.below ((Below.refl _ _).drew)).1 k hkN; injection b1 with b1; injection b1 with b4 b5; subst b4; subst b5; rw [hz.out] at b2; rw [Option.some.inj b2]; exact b3⟩
   have hD2 := (Below.refl y131.heap.size y131).drew
   replace HC := HC.trans HN (Ch.of_below g _ hD2)
   replace kC := kC.b hD2
   replace kO := kO.b hD2
   replace kR := kR.b hD2
   replace hR := hR.below hD2
   replace hY5 := hY5.below hD2
   clear hD2
   generalize y131.drew = y132 at *
   have sS : At y132 g 8 (lgC D.lg (.slice A0 n0 p0)) ∧ y132.cell? ⟨g, 6, none⟩ = some (.int .i64 D.cm) ∧ y132.cell? ⟨pl, ol + k, none⟩ = some (.int .i64 z) := ⟨(by have h := at_rL kR; exact h), kR.cell 6, by obtain ⟨a1, a2, a3, b1, b2, b3⟩ := ref9.rdv_at hY5.1 k hkN; injection b1 with b1; injection b1 with b4 b5; subst b4; subst b5; rw [hz.out] at b2; rw [Option.some.inj b2]; exact b3⟩
   refine tail.tt 0 (v := ?v_0_12) (?y_0_12) ?_
   case y_0_12 => (intro wq hSw; (try dsimp only at hSw); go_simp; first | done | with_reducible rfl)
   try simp only [Act.put, ka, kb, kc]
   refine tail.tt 1 (v := ?v_1_12) (?y_1_12) ?_
   case y_1_12 => (intro wq hSw; (try dsimp only at hSw); go_simp; first | done | with_reducible rfl)
   try simp only [Act.put, ka, kb, kc]
   refine tail.tt 2 (v := ?v_2_12) (?y_2_12) ?_
   case y_2_12 => (intro wq hSw; (try dsimp only at hSw); go_simp; first | done | with_reducible rfl)
   try simp only [Act.put, ka, kb, kc]
   refine tail.tt 3 (v := ?v_3_12) (?y_3_12) ?_
   case y_3_12 => (intro wq hSw; (try dsimp only at hSw); go_simp; first | done | with_reducible rfl)
   try simp only [Act.put, ka, kb, kc]
   refine tail.tt 4 (v := ?v_4_12) (?y_4_12) ?_
   case y_4_12 => (intro wq hSw; (try dsimp only at hSw); go_simp; first | done | with_reducible rfl)
   try simp only [Act.put, ka, kb, kc]
   refine tail.tt 5 (v := ?v_5_12) (?y_5_12) ?_
   case y_5_12 => (intro wq hSw; (try dsimp only at hSw); go_simp; first | done | with_reducible rfl)
   try simp only [Act.put, ka, kb, kc]
   refine tail.tt 6 (v := ?v_6_12) (?y_6_12) ?_
   case y_6_12 => (intro wq hSw; (try dsimp only at hSw); go_simp; first | done | with_reducible rfl)
   try simp only [Act.put, ka, kb, kc]
   refine tail.tt 7 (v := ?v_7_12) (?y_7_12) ?_
   case y_7_12 => (intro wq hSw; (try dsimp only at hSw); go_simp; first | done | with_reducible rfl)
   try simp only [Act.put, ka, kb, kc]
   refine tail.tt 8 (v := ?v_8_12) (?y_8_12) ?_
   case y_8_12 => (intro wq hSw; (try dsimp only at hSw); go_simp; first | done | with_reducible rfl)
   try simp only [Act.put, ka, kb, kc]
   refine tail.tt 9 (v := (lgV D.lg (.slice A0 n0 p0))) (?y_9_12) ?_
   case y_9_12 => exact fun wq hSw => run_ldAt rfl rfl hSw.1 (aggL _) (sizeL _)
   try simp only [Act.put, ka, kb, kc]
   refine tail.tt 11 (v := ?v_11_12) (?y_11_12) ?_
   case y_11_12 => (intro wq hSw; (try dsimp only at hSw); go_simp; first | done | with_reducible rfl)
   try simp only [Act.put, ka, kb, kc]
   refine tail.tt 12 (v := ?v_12_12) (?y_12_12) ?_
   case y_12_12 => (intro wq hSw; (try dsimp only at hSw); go_simp; first | done | with_reducible rfl)
   try simp only [Act.put, ka, kb, kc]
   refine tail.tt 13 (v := ?v_13_12) (?y_13_12) ?_
   case y_13_12 => (intro wq hSw; (try dsimp only at hSw); go_simp; first | done | with_reducible rfl)
   try simp only [Act.put, ka, kb, kc]
   refine tail.tt 14 (v := ?v_14_12) (?y_14_12) ?_
   case y_14_12 => (intro wq hSw; (try dsimp only at hSw); go_simp; first | done | with_reducible rfl)
   try simp only [Act.put, ka, kb, kc]
   refine tail.tt 15 (v := (lgV D.lg (.slice A0 n0 p0))) (?y_15_12) ?_
   case y_15_12 => exact fun wq hSw => run_ldAt rfl rfl hSw.1 (aggL _) (sizeL _)
   try simp only [Act.put, ka, kb, kc]
   refine tail.tt 17 (v := ?v_17_12) (?y_17_12) ?_
   case y_17_12 => (intro wq hSw; (try dsimp only at hSw); go_simp; first | done | with_reducible rfl)
   try simp only [Act.put, ka, kb, kc]
   refine tail.tt 18 (v := ?v_18_12) (?y_18_12) ?_
   case y_18_12 => (intro wq hSw; (try dsimp only at hSw); go_simp; first | done | with_reducible rfl)
   try simp only [Act.put, ka, kb, kc]
   refine tail.tt 19 (v := ?v_19_12) (?y_19_12) ?_
   case y_19_12 => (intro wq hSw; (try dsimp only at hSw); go_simp; first | done | with_reducible rfl)
   try simp only [Act.put, ka, kb, kc]
   refine tail.tt 20 (v := ?v_20_12) (?y_20_12) ?_
   case y_20_12 => (intro wq hSw; (try dsimp only at hSw); go_simp; first | done | with_reducible rfl)
   try simp only [Act.put, ka, kb, kc]
   refine tail.tt 21 (v := ?v_21_12) (?y_21_12) ?_
   case y_21_12 => (intro wq hSw; (try dsimp only at hSw); go_simp; first | done | with_reducible rfl)
   try simp only [Act.put, ka, kb, kc]
   refine tail.tn 10 (fun KQ hKQ => ?_)
   go_simp
   have CC := ref12.rlast_any D.lg A0 n0 p0 y132 hR.rd.1 hGD.out.1.1
   refine (CC).mono ?_
   rintro e y133 ⟨rfl, hY⟩
   replace HC := HC.trans HN (Ch.of_below g _ hY)
   replace kC := kC.b hY
   replace kO := kO.b hY
   replace kR := kR.b hY
   replace hR := hR.below hY
   replace hY5 := hY5.below hY
   clear hY
   clear CC
   clear sS
   have sS : At y133 g 8 (lgC D.lg (.slice A0 n0 p0)) ∧ y133.cell? ⟨g, 6, none⟩ = some (.int .i64 D.cm) ∧ y133.cell? ⟨pl, ol + k, none⟩ = some (.int .i64 z) := ⟨(by have h := at_rL kR; exact h), kR.cell 6, by obtain ⟨a1, a2, a3, b1, b2, b3⟩ := ref9.rdv_at hY5.1 k hkN; injection b1 with b1; injection b1 with b4 b5; subst b4; subst b5; rw [hz.out] at b2; rw [Option.some.inj b2]; exact b3⟩
   go_wp2_with fail
   refine hKQ.out _ _ ?s_10 ?_
   case s_10 => exact .inr sS
   clear hKQ KQ
   try simp only [Act.put, ka, kb, kc]
   refine tail.tn 16 (fun KQ hKQ => ?_)
   go_simp
   have CC := ref12.rlt_any D.lg A0 n0 p0 y133 y133.heap.size hR.rd (Nat.le_refl _) hR.cap hGD.out.1.1
   refine (CC).mono ?_
   rintro e y134 ⟨rfl, hY⟩
   replace HC := HC.trans HN (Ch.of_below g _ hY)
   replace kC := kC.b hY
   replace kO := kO.b hY
   replace kR := kR.b hY
   replace hR := hR.below hY
   replace hY5 := hY5.below hY
   clear hY
   clear CC
   clear sS
   have sS : At y134 g 8 (lgC D.lg (.slice A0 n0 p0)) ∧ y134.cell? ⟨g, 6, none⟩ = some (.int .i64 D.cm) ∧ y134.cell? ⟨pl, ol + k, none⟩ = some (.int .i64 z) := ⟨(by have h := at_rL kR; exact h), kR.cell 6, by obtain ⟨a1, a2, a3, b1, b2, b3⟩ := ref9.rdv_at hY5.1 k hkN; injection b1 with b1; injection b1 with b4 b5; subst b4; subst b5; rw [hz.out] at b2; rw [Option.some.inj b2]; exact b3⟩
   go_wp2_with fail
   refine hKQ.out _ _ ?s_16 ?_
   case s_16 => exact .inr sS
   clear hKQ KQ
   try simp only [Act.put, ka, kb, kc]
   refine tail.tt 22 (v := (msV (askM D) (.slice none 0 0))) (?y_22_12) ?_
   case y_22_12 => exact fun wq hSw => rb_ask (lastF D.lg) (termF D.lg (lastF D.lg)).1 D.cm rfl rfl rfl rfl
   try simp only [Act.put, ka, kb, kc]
   refine tail.tn 23 (fun KQ hKQ => ?_)
   go_simp
   refine (say_any g D _ o1 z _ none 0 0 y134 ⟨_, _, _, _, kR, hR⟩ (RdX.nil _ _ _ _) (Nat.le_refl _) hlen.out).mono ?_
   rintro e y135 ⟨rfl, o135, ⟨A135, n135, p135, v135, kR2, hR2⟩, hc, hn⟩
   have a2 := akC.next hn kC.lt
   replace kC := kC.ch hc akC
   replace akC := a2
   clear a2
   have a2 := akO.next hn kO.lt
   replace kO := kO.ch hc akO
   replace akO := a2
   clear a2
   replace hY5 := hY5.ch hc hn
   have HN2 := HN.trans HC.size hn
   replace HC := HC.trans HN hc
   replace HN := HN2
   clear HN2 kR hR hc hn
   have kR := kR2
   have hR := hR2
   clear kR2 hR2
   go_wp2_with fail
   refine hKQ.out _ _ ?s_23 ?_
   case s_23 => exact .inl (by decide)
   clear hKQ KQ
   try simp only [Act.put, ka, kb, kc]
   refine tail.done (by kernel_rfl) ?_ _
   replace hne := Lh hne
   go_wp2_with fail
   go_roundw
   case rel => exact ⟨k + 1, _, by omega, rfl, (by show RunI _ _ _ _ _; rw [asked_yes hz.out (fun h => hne.out (h.trans hidd.out))]; exact ⟨_, _, _, _, kR, hR⟩), Lh hY5, Lh HC, Lh HN, Lh kC, Lh kO⟩
   case measure => simp only [intOf]; omega
  ·
   obtain rfl : k = N := by omega
   have ck : ¬ ((k : Int) < (k : Int)) := by omega
   go_upto_region 24 with (first | refine lo_Cj kC ?_ | refine lo_cLj kC ?_ | refine lo_cJj kC ?_ | refine lo_Cj kO ?_ | refine lo_cLj kO ?_ | refine lo_cJj kO ?_ | refine lo_rLj kR ?_ | refine lo_rCj kR ?_)
   refine wp_region_held_drew (S := fun wq => Blk 99 wq g (rnC D (.slice A0 n0 p0) v0) ∧ wq.cell? ⟨g, 45, none⟩ = some v0) (by kernel_rfl) ?s_tck24 (fun hHeld => ?_)
   case s_tck24 => exact ⟨kR, kR.cell 45⟩
   have hD := (Below.refl wr.heap.size wr).drew
   replace HC := HC.trans HN (Ch.of_below g _ hD)
   replace kC := kC.b hD
   replace kO := kO.b hD
   replace kR := kR.b hD
   replace hR := hR.below hD
   replace hY5 := hY5.below hD
   clear hD
   generalize wr.drew = y131 at *
   iterate 3 (refine tx 0 _ ?_; try simp only [Act.put, ka, kb, kc])
   refine tj 3 _ ?_ (hy := fun wq hSw => rld_rC rfl rfl (And.left hSw))
   try simp only [Act.put, ka, kb, kc]
   iterate 4 (refine tx 4 _ ?_; try simp only [Act.put, ka, kb, kc])
   refine rr [8] ?_
   refine rc (fun KQ hKQ => ?_) AllReadyH.nil
   refine step_stAt rfl 33 _ _ rfl (cells := (crC D (.slice A0 n0 p0)).toArray) (crC D (.slice A0 n0 p0)) rfl rfl kO sizeCv (by show 0 + 45 ≤ 45; omega) (cr_one _) rfl ?_
   intro yz kO2 pO
   have kR2 := kR.put pO (Ne.symm akO.1)
   have hR2 := hR.far pO (by rw [HN.2]; exact hzO.out)
   clear kO kR
   have kR := kR2
   clear kR2
   refine hKQ.out _ _ (⟨kR, kR.cell 45⟩) (fun _ => ?_)
   clear hKQ KQ
   try simp only [Act.put]
   refine tj 9 _ ?_
   try simp only [Act.put, ka, kb, kc]
   refine wpAnyH_done (by kernel_rfl) ?_ _
   go_wp2_with fail
   (try simp only [Exit.inBlock, Exit.then])
   refine bodyPost_ret (res2 Tryz.results18 rfl rfl (aggC _) (sizeC _) (ldCv kO2)) rfl ?_
   have hfin : tickF c = (D, askedF D (l.take k)) := by exact hTA.out
   rw [hfin]
   have hR3 := hR2
   have HZ := HC.low (B := w.heap.size) (Nat.le_trans hlw.out hlg.out) (fun k h => by cases h) HB0.out.size
   exact ⟨_, _, _, _, rfl, hR2.rd, hR2.cap, RdMs.of_run hR2, pO.below _ _ (HB0.out.trans HZ) hwO.out⟩
end Go.Proofs.YtegnfkbmlalkeaaGreat.ref13
