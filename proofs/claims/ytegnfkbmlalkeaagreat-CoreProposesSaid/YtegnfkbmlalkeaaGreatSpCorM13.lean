/- The landed core: Tick. Conditions: those that the theorems name. -/
import Derived.Deep.RegionHeld3
import Derived.Deep.Cut
import Derived.Lib.Hide
import Derived.Test.YtegnfkbmlalkeaaGreatSpKitCl
import Derived.Test.YtegnfkbmlalkeaaGreatSpCorL13
import Derived.Test.YtegnfkbmlalkeaaGreatSpCorK13
import Derived.Test.YtegnfkbmlalkeaaGreatSpJ5
import Derived.Test.YtegnfkbmlalkeaaGreatSpKitLg
import Derived.Test.YtegnfkbmlalkeaaGreatSpJ0
set_option linter.unusedVariables false
set_option maxHeartbeats 16000000
set_option maxRecDepth 10000
namespace Go.Proofs.YtegnfkbmlalkeaaGreat.cor
open Go Go.RowKit kit nums cf lg cr se
def upW (c : CoL) : CoL := { c with wa := c.wa + 1 }
theorem tk_lead {c : CoL} (h : c.ro = 2) : tickF c = (btC (upW c), btO (upW c)) := by unfold tickF btC btO; dsimp only; rw [if_pos h]; rfl
theorem tk_none {c : CoL} (h : ¬ c.ro = 2) (hb : (ledF (conC c) c.id && decide (patF c.id ≤ c.wa + 1) && decide (c.tm < 1099511627776)) = false) : tickF c = (upW c, []) := by
 unfold tickF; dsimp only; rw [if_neg h]
 have hb2 : (ledF (conC { c with wa := c.wa + 1 }) c.id && decide (patF c.id ≤ c.wa + 1) && decide (c.tm < 1099511627776)) = false := hb
 rw [hb2]; rfl
theorem tk_stand {c : CoL} (h : ¬ c.ro = 2) (hb : (ledF (conC c) c.id && decide (patF c.id ≤ c.wa + 1) && decide (c.tm < 1099511627776)) = true) : tickF c = stF (upW c) := by
 unfold tickF; dsimp only; rw [if_neg h]
 have hb2 : (ledF (conC { c with wa := c.wa + 1 }) c.id && decide (patF c.id ≤ c.wa + 1) && decide (c.tm < 1099511627776)) = true := hb
 rw [hb2]; rfl
theorem own2_any (c : CoL) (A : Option Addr) (n p : Nat) (w : World) (B : Nat) (hR : RdE w B A n c.lg.es) (hB : B ≤ w.heap.size) (hp : n ≤ p) (hn : n ≤ 1000000) : Calls Tryz.prog 57 #[crV c (.slice A n p)] w fun e w' => ∃ A' n' p', e = .returned (crV c (.slice A' n' p')) ∧ RdE w' w'.heap.size A' n' c.lg.es ∧ n' ≤ p' ∧ OldNew w.heap.size A n A' n' ∧ Below w.heap.size w w' := by
 refine (own_any c A n p w B hR hB hp hn).mono ?_
 rintro e w1 ⟨A1, p1, rfl, h1, h2, h3, -, h4⟩
 exact ⟨A1, n, p1, rfl, h1, h2, h3, h4⟩
theorem tick_any (c : CoL) (A : Option Addr) (n p : Nat) (w : World) (B : Nat) (hR : RdE w B A n c.lg.es) (hB : B ≤ w.heap.size) (hp : n ≤ p) (hk : GoodK c) : Calls Tryz.prog 17 #[crV c (.slice A n p)] w fun e w' => ∃ A' n' p' v B', e = .returned (.tuple #[crV (tickF c).1 (.slice A' n' p'), v]) ∧ RdE w' B' A' n' (tickF c).1.lg.es ∧ n' ≤ p' ∧ OldNew w.heap.size A n A' n' ∧ OutL w' B' v (tickF c).2 ∧ w.heap.size ≤ B' ∧ B' ≤ w'.heap.size ∧ Below w.heap.size w w' := by
 have HK := Lh hk
 have HF := Lh hk.n.1
 have hn6 : n ≤ 1000000 := by rw [← hR.len]; exact hk.n.1.2.2
 replace hn6 := Lh hn6
 have hid := Lh (show 1 ≤ c.id ∧ c.id ≤ 9 from ⟨hk.id1, hk.n.2.2.2.1⟩)
 have hwa := hk.wa
 have htm := hk.tm
 have h1L := Lh (fun h => tk_lead (c := c) h)
 have h1N := Lh (fun h hb => tk_none (c := c) h hb)
 have h1S := Lh (fun h hb => tk_stand (c := c) h hb)
 obtain ⟨d, hd⟩ : ∃ q, upW c = q := ⟨_, rfl⟩
 rw [hd] at h1L h1N h1S
 have hG : Hid (GoodN d 700000 ∧ d.id = c.id ∧ d.lg = c.lg ∧ d.tm = c.tm ∧ d.wa = c.wa + 1 ∧ d.he = c.he ∧ d.nx = c.nx ∧ conC d = conC c) := by show _ ∧ _; rw [← hd]; exact ⟨hk.n, rfl, rfl, rfl, rfl, rfl, rfl, rfl⟩
 obtain ⟨wv, hwv⟩ : ∃ q, c.wa = q := ⟨_, rfl⟩
 rw [hwv] at hwa h1N h1S
 obtain ⟨tv, htv⟩ : ∃ q, c.tm = q := ⟨_, rfl⟩
 rw [htv] at htm h1N h1S
 have w1 : IntKind.i64.wrap (wv + 1) = wv + 1 := by rw [wrap_sm (by omega) (by omega)]
 clear hk
 replace hd := Lh hd
 replace hwv := Lh hwv
 replace htv := Lh htv
 replace hwa := Lh hwa
 replace htm := Lh htm
 have R0 := hR.more hB
 clear hR hB
 go_enter Tryz.func17, Tryz.ntmps17
 have NIR0kC := Lh (NotIn.of_rd R0 (Nat.le_refl _))
 have LEkC : Hid (w.heap.size ≤ w.heap.size) := Nat.le_refl _
 go_wp2_with (first | refine box_C rfl _ rfl c (.slice A n p) rfl ?_ | fail)
 intro y1 kC e1 s1
 clear s1
 have HB := e1
 replace R0 := R0.on e1 e1.size
 clear e1
 have LTkCkO := Lh kC.lt
 have NIR0kO := Lh (NotIn.of_rd R0 (Nat.le_refl _))
 have LEkO : Hid (w.heap.size ≤ y1.heap.size) := HB.size
 go_wp2_with (first | refine al_C rfl rfl ?_ | (first | refine lo_Cj kC ?_ | refine lo_cLj kC ?_ | refine lo_cJj kC ?_))
 intro y2 kO e2 s2
 clear s2
 replace kO : Blk _ _ _ (crC zC (.slice none 0 0)) := kO
 replace HB := bt HB e2
 replace kC := kC.b e2
 replace R0 := R0.on e2 e2.size
 clear e2
 generalize y1.heap.size = gkO at *
 go_wp2_with (first | refine lo_Cj kC ?_ | refine lo_cLj kC ?_ | refine lo_cJj kC ?_ | refine lo_Cj kO ?_ | refine lo_cLj kO ?_ | refine lo_cJj kO ?_)
 refine (own2_any c A n p y2 y2.heap.size R0 (Nat.le_refl _) hp hn6.out).mono ?_
 rintro e y3 ⟨A1, n1, p1, rfl, R1, hp1, ON1, hY⟩
 have NIR1kC := Lh (NIR0kC.out.next ON1 kC.lt)
 have NIR1kO := Lh (NIR0kO.out.next ON1 kO.lt)
 have ON12 := Lh ((OldNew.refl w.heap.size A n).trans ON1 HB.size)
 clear ON1
 replace HB := bt HB hY
 replace kC := kC.b hY
 replace kO := kO.b hY
 replace R0 := R0.on hY hY.size
 clear hY
 go_wp2_with (first | refine st_C rfl _ _ rfl c A1 n1 p1 rfl rfl _ kC rfl ?_ | (first | refine lo_Cj kC ?_ | refine lo_cLj kC ?_ | refine lo_cJj kC ?_ | refine lo_Cj kO ?_ | refine lo_cLj kO ?_ | refine lo_cJj kO ?_))
 intro y4 kC2 pO
 replace kO := kO.put pO (Nat.ne_of_gt LTkCkO.out)
 replace R0 := R0.putS pO NIR0kC.out
 replace R1 := R1.putS pO NIR1kC.out
 replace HB := pO.below _ _ HB LEkC.out
 clear kC
 have kC := kC2
 clear kC2 pO
 have cwa : y4.cell? ⟨w.heap.size, 5, none⟩ = some (.int .i64 wv) := by rw [← hwv.out]; exact kC.cell 5
 have df := fun i => kC.frozen i
 go_upto_region 3 with (fail)
 clear df cwa
 have kC2 : Blk 33 _ w.heap.size (crC { c with wa := wv + 1 } (.slice A1 n1 p1)) := kC.set_ 5 (.int .i64 (wv + 1))
 have pO := put_set y4 w.heap.size (5) (.int .i64 (wv + 1))
 generalize (y4.setCell ⟨w.heap.size, 5, none⟩ (.int .i64 (wv + 1))) = y5 at *
 replace kO := kO.put pO (Nat.ne_of_gt LTkCkO.out)
 replace R0 := R0.putS pO NIR0kC.out
 replace R1 := R1.putS pO NIR1kC.out
 replace HB := pO.below _ _ HB LEkC.out
 clear kC
 have kC := kC2
 clear kC2 pO
 have hdE : { c with wa := wv + 1 } = d := by rw [← hd.out, ← hwv.out]; rfl
 rw [hdE] at kC
 clear hdE w1
 rw [← hG.out.2.2.1] at R1
 obtain ⟨ro, hro⟩ : ∃ q, c.ro = q := ⟨_, rfl⟩
 rw [hro] at h1L h1N h1S
 have cro : y5.cell? ⟨w.heap.size, 1, none⟩ = some (.int .i64 ro) := by rw [← hro, show c.ro = d.ro by rw [← hd.out]; rfl]; exact kC.cell 1
 clear hro
 by_cases h2 : ro = 2
 ·
  have hb2 : (ro == 2) = true := by simp [h2]
  have hE := Lh (h1L.out h2)
  replace h2 := Lh h2
  clear h1N h1S
  go_wp2_with (first | refine lo_Cj kC ?_ | refine lo_cLj kC ?_ | refine lo_cJj kC ?_ | refine lo_Cj kO ?_ | refine lo_cLj kO ?_ | refine lo_cJj kO ?_)
  clear cro
  refine (beat_any d A1 n1 p1 y5 y5.heap.size R1 (Nat.le_refl _) hp1 (ref13.good_more hG.out.1 (by omega)) (by rw [hG.out.2.1]; exact hid.out.1) (fun j j1 j9 => by rw [hG.out.2.2.2.2.2.2.1]; exact HK.out.nx j (by omega)) (by rw [hG.out.2.2.2.2.2.1]; exact HK.out.he) (by rw [hG.out.2.2.2.2.1, hwv.out]; have := hwa.out; omega)).mono ?_
  rintro e y6 ⟨A9, n9, p9, v9, B9, rfl, RB, hp9, ON9, hO, hB9, hB8, hY⟩
  have LBhOkC := Lh (Nat.lt_of_lt_of_le kC.lt hB9)
  have NIRBkO := Lh (NIR1kO.out.next ON9 kO.lt)
  have LBhOkO := Lh (Nat.lt_of_lt_of_le kO.lt hB9)
  have ON92 := Lh (ON12.out.trans ON9 HB.size)
  clear ON9
  have hB7 := Lh (Nat.le_trans HB.size hB9)
  have RBz := Lh hB8
  clear hB8 hB9
  replace HB := bt HB hY
  replace kC := kC.b hY
  replace kO := kO.b hY
  replace R0 := R0.on hY hY.size
  replace R1 := R1.on hY hY.size
  clear hY
  go_wp2_with (first | refine st_C rfl _ _ rfl (btC d) A9 n9 p9 rfl rfl _ kO rfl ?_ | (first | refine lo_Cj kC ?_ | refine lo_cLj kC ?_ | refine lo_cJj kC ?_ | refine lo_Cj kO ?_ | refine lo_cLj kO ?_ | refine lo_cJj kO ?_))
  intro y7 kO2 pO
  replace kC := kC.put pO (Nat.ne_of_lt LTkCkO.out)
  replace R0 := R0.putS pO NIR0kO.out
  replace R1 := R1.putS pO NIR1kO.out
  replace hO := hO.put pO LBhOkO.out
  replace RB := RB.putN pO NIRBkO.out
  replace RBz := Lh (Nat.le_trans RBz.out (Nat.le_of_eq pO.size.symm))
  replace HB := pO.below _ _ HB LEkO.out
  clear kO
  have kO := kO2
  clear kO2 pO
  go_wp2_with (first | refine lo_Cj kC ?_ | refine lo_cLj kC ?_ | refine lo_cJj kC ?_ | refine lo_Cj kO ?_ | refine lo_cLj kO ?_ | refine lo_cJj kO ?_)
  (try simp only [Exit.inBlock, Exit.then])
  refine bodyPost_ret (res2 Tryz.results17 rfl rfl (aggC _) (sizeC _) (ldCv kO)) rfl ?_
  rw [hE.out]
  exact ⟨A9, n9, p9, v9, B9, rfl, RB, hp9, ON92.out, hO, hB7.out, RBz.out, HB⟩
 have hb2 : (ro == 2) = false := by simp [h2]
 have hN := Lh (h1N.out h2)
 have hSt := Lh (h1S.out h2)
 replace h2 := Lh h2
 clear h1L h1N h1S
 obtain ⟨lb, hlb⟩ : ∃ q, ledF (conC c) c.id = q := ⟨_, rfl⟩
 rw [hlb] at hN hSt
 replace hlb := Lh hlb
 have hlbd : Hid (ledF (conC d) c.id = lb) := by show _ = _; rw [hG.out.2.2.2.2.2.2.2]; exact hlb.out
 obtain ⟨pv, hpv⟩ : ∃ q, patF c.id = q := ⟨_, rfl⟩
 rw [hpv] at hN hSt
 replace hpv := Lh hpv
 go_upto_region 5 with (first | refine lo_Cj kC ?_ | refine lo_cLj kC ?_ | refine lo_cJj kC ?_ | refine lo_Cj kO ?_ | refine lo_cLj kO ?_ | refine lo_cJj kO ?_)
 clear cro
 rcases lb with _ | _
 ·
  refine wp_region_held_drew (S := fun wq => At wq w.heap.size 8 (lgC d.lg (.slice A1 n1 p1)) ∧ wq.cell? ⟨w.heap.size, 0, none⟩ = some (.int .i64 c.id) ∧ wq.cell? ⟨w.heap.size, 5, none⟩ = some (.int .i64 (wv + 1)) ∧ wq.cell? ⟨w.heap.size, 2, none⟩ = some (.int .i64 tv)) (by kernel_rfl) ?s_tki5a (fun hHeld => ?_)
  case s_tki5a => exact ⟨at_cL kC, by rw [← hG.out.2.1]; exact kC.cell 0, by rw [← hwv.out, ← hG.out.2.2.2.2.1]; exact kC.cell 5, by rw [← htv.out, ← hG.out.2.2.2.1]; exact kC.cell 2⟩
  have hD := (Below.refl y5.heap.size y5).drew
  replace HB := bt HB hD
  replace kC := kC.b hD
  replace kO := kO.b hD
  replace R0 := R0.on hD hD.size
  replace R1 := R1.on hD hD.size
  clear hD
  generalize y5.drew = y6 at *
  refine tj 0 _ ?_
  try simp only [Act.put, ka, kb, kc]
  refine tj 1 ((lgV d.lg (.slice A1 n1 p1))) ?_ (hy := fun wq hSw => run_ldAt rfl rfl hSw.1 (aggL _) (sizeL _))
  try simp only [Act.put, ka, kb, kc]
  iterate 2 (refine tx 3 _ ?_; try simp only [Act.put, ka, kb, kc])
  refine rr [2] ?_
  refine rc (fun KQ hKQ => ?_) AllReadyH.nil
  go_simp
  have CC := enti.conf_any d.lg A1 n1 p1 y6 y6.heap.size R1 (Nat.le_refl _) hp1 hG.out.1.1
  refine (CC).mono ?_
  rintro e y7 ⟨rfl, hY⟩
  replace HB := bt HB hY
  replace kC := kC.b hY
  replace kO := kO.b hY
  replace R0 := R0.on hY hY.size
  replace R1 := R1.on hY hY.size
  clear hY
  clear CC
  go_wp2_with fail
  refine hKQ.out _ _ (⟨at_cL kC, by rw [← hG.out.2.1]; exact kC.cell 0, by rw [← hwv.out, ← hG.out.2.2.2.2.1]; exact kC.cell 5, by rw [← htv.out, ← hG.out.2.2.2.1]; exact kC.cell 2⟩) (fun _ => ?_)
  clear hKQ KQ
  try simp only [Act.put, ka, kb, kc]
  refine rr [5] ?_
  refine rc (fun KQ hKQ => ?_) AllReadyH.nil
  go_simp
  have CC := confi.leads_any (conC d) c.id y7 hG.out.1.2.2.2.2.1 (by have := hid.out; omega) (by have := hid.out; omega)
  rw [hlbd.out] at CC
  refine (CC).mono ?_
  rintro e y8 ⟨rfl, hY⟩
  replace HB := bt HB hY
  replace kC := kC.b hY
  replace kO := kO.b hY
  replace R0 := R0.on hY hY.size
  replace R1 := R1.on hY hY.size
  clear hY
  clear CC
  go_wp2_with fail
  refine hKQ.out _ _ (⟨at_cL kC, by rw [← hG.out.2.1]; exact kC.cell 0, by rw [← hwv.out, ← hG.out.2.2.2.2.1]; exact kC.cell 5, by rw [← htv.out, ← hG.out.2.2.2.1]; exact kC.cell 2⟩) (fun _ => ?_)
  clear hKQ KQ
  try simp only [Act.put, ka, kb, kc]
  iterate 2 (refine tx 6 _ ?_; try simp only [Act.put, ka, kb, kc])
  refine kit.tv 8 ?_
  try simp only [Act.put, ka, kb, kc]
  refine kit.tv 9 ?_
  try simp only [Act.put, ka, kb, kc]
  refine kit.tv 10 ?_
  try simp only [Act.put, ka, kb, kc]
  refine kit.tv 11 ?_
  try simp only [Act.put, ka, kb, kc]
  refine kit.tv 12 ?_
  try simp only [Act.put, ka, kb, kc]
  refine kit.tv 13 ?_
  try simp only [Act.put, ka, kb, kc]
  iterate 2 (refine tx 14 _ ?_; try simp only [Act.put, ka, kb, kc])
  refine kit.tv 16 ?_
  try simp only [Act.put, ka, kb, kc]
  refine kit.tv 17 ?_
  try simp only [Act.put, ka, kb, kc]
  refine kit.tv 18 ?_
  try simp only [Act.put, ka, kb, kc]
  refine tj 19 _ ?_
  try simp only [Act.put, ka, kb, kc]
  refine wpAnyH_done (by kernel_rfl) ?_ _
  have hE := Lh (hN.out (by rfl))
  have hO := OutL.nil y8 y8.heap.size
  have hB7 := Lh (HB.size)
  have RB := R1
  have RBz := Lh (Nat.le_refl y8.heap.size)
  have LBhOkC := Lh kC.lt
  have LBhOkO := Lh kO.lt
  have NIRBkO := NIR1kO
  obtain ⟨B9, hB9⟩ : ∃ q, y8.heap.size = q := ⟨_, rfl⟩
  rw [hB9] at hO hB7 RB RBz LBhOkC LBhOkO
  replace RBz := Lh (show B9 ≤ y8.heap.size by rw [hB9]; exact Nat.le_refl _)
  clear hB9
  go_wp2_with (first | refine st_C rfl _ _ rfl d A1 n1 p1 rfl rfl _ kO rfl ?_ | (first | refine lo_Cj kC ?_ | refine lo_cLj kC ?_ | refine lo_cJj kC ?_ | refine lo_Cj kO ?_ | refine lo_cLj kO ?_ | refine lo_cJj kO ?_))
  intro y9 kO2 pO
  replace kC := kC.put pO (Nat.ne_of_lt LTkCkO.out)
  replace R0 := R0.putS pO NIR0kO.out
  replace R1 := R1.putS pO NIR1kO.out
  replace hO := hO.put pO LBhOkO.out
  replace RB := RB.putN pO NIRBkO.out
  replace RBz := Lh (Nat.le_trans RBz.out (Nat.le_of_eq pO.size.symm))
  replace HB := pO.below _ _ HB LEkO.out
  clear kO
  have kO := kO2
  clear kO2 pO
  go_wp2_with (first | refine lo_Cj kC ?_ | refine lo_cLj kC ?_ | refine lo_cJj kC ?_ | refine lo_Cj kO ?_ | refine lo_cLj kO ?_ | refine lo_cJj kO ?_)
  (try simp only [Exit.inBlock, Exit.then])
  refine bodyPost_ret (res2 Tryz.results17 rfl rfl (aggC _) (sizeC _) (ldCv kO)) rfl ?_
  rw [hE.out]
  exact ⟨A1, n1, p1, _, B9, rfl, RB, hp1, ON12.out, hO, hB7.out, RBz.out, HB⟩
 by_cases hlt : wv + 1 < pv
 ·
  refine wp_region_held_drew (S := fun wq => At wq w.heap.size 8 (lgC d.lg (.slice A1 n1 p1)) ∧ wq.cell? ⟨w.heap.size, 0, none⟩ = some (.int .i64 c.id) ∧ wq.cell? ⟨w.heap.size, 5, none⟩ = some (.int .i64 (wv + 1)) ∧ wq.cell? ⟨w.heap.size, 2, none⟩ = some (.int .i64 tv)) (by kernel_rfl) ?s_tki5b (fun hHeld => ?_)
  case s_tki5b => exact ⟨at_cL kC, by rw [← hG.out.2.1]; exact kC.cell 0, by rw [← hwv.out, ← hG.out.2.2.2.2.1]; exact kC.cell 5, by rw [← htv.out, ← hG.out.2.2.2.1]; exact kC.cell 2⟩
  have hD := (Below.refl y5.heap.size y5).drew
  replace HB := bt HB hD
  replace kC := kC.b hD
  replace kO := kO.b hD
  replace R0 := R0.on hD hD.size
  replace R1 := R1.on hD hD.size
  clear hD
  generalize y5.drew = y6 at *
  refine tj 0 _ ?_
  try simp only [Act.put, ka, kb, kc]
  refine tj 1 ((lgV d.lg (.slice A1 n1 p1))) ?_ (hy := fun wq hSw => run_ldAt rfl rfl hSw.1 (aggL _) (sizeL _))
  try simp only [Act.put, ka, kb, kc]
  iterate 2 (refine tx 3 _ ?_; try simp only [Act.put, ka, kb, kc])
  refine rr [2] ?_
  refine rc (fun KQ hKQ => ?_) AllReadyH.nil
  go_simp
  have CC := enti.conf_any d.lg A1 n1 p1 y6 y6.heap.size R1 (Nat.le_refl _) hp1 hG.out.1.1
  refine (CC).mono ?_
  rintro e y7 ⟨rfl, hY⟩
  replace HB := bt HB hY
  replace kC := kC.b hY
  replace kO := kO.b hY
  replace R0 := R0.on hY hY.size
  replace R1 := R1.on hY hY.size
  clear hY
  clear CC
  go_wp2_with fail
  refine hKQ.out _ _ (⟨at_cL kC, by rw [← hG.out.2.1]; exact kC.cell 0, by rw [← hwv.out, ← hG.out.2.2.2.2.1]; exact kC.cell 5, by rw [← htv.out, ← hG.out.2.2.2.1]; exact kC.cell 2⟩) (fun _ => ?_)
  clear hKQ KQ
  try simp only [Act.put, ka, kb, kc]
  refine rr [5] ?_
  refine rc (fun KQ hKQ => ?_) AllReadyH.nil
  go_simp
  have CC := confi.leads_any (conC d) c.id y7 hG.out.1.2.2.2.2.1 (by have := hid.out; omega) (by have := hid.out; omega)
  rw [hlbd.out] at CC
  refine (CC).mono ?_
  rintro e y8 ⟨rfl, hY⟩
  replace HB := bt HB hY
  replace kC := kC.b hY
  replace kO := kO.b hY
  replace R0 := R0.on hY hY.size
  replace R1 := R1.on hY hY.size
  clear hY
  clear CC
  go_wp2_with fail
  refine hKQ.out _ _ (⟨at_cL kC, by rw [← hG.out.2.1]; exact kC.cell 0, by rw [← hwv.out, ← hG.out.2.2.2.2.1]; exact kC.cell 5, by rw [← htv.out, ← hG.out.2.2.2.1]; exact kC.cell 2⟩) (fun _ => ?_)
  clear hKQ KQ
  try simp only [Act.put, ka, kb, kc]
  iterate 6 (refine tx 6 _ ?_; try simp only [Act.put, ka, kb, kc])
  refine rr [12] ?_
  refine rc (fun KQ hKQ => ?_) AllReadyH.nil
  go_simp
  have CC := pat_any c.id y8 (by have := hid.out; omega)
  rw [hpv.out] at CC
  refine (CC).mono ?_
  rintro e y9 ⟨rfl, hW⟩
  subst hW
  clear CC
  go_wp2_with fail
  refine hKQ.out _ _ (⟨at_cL kC, by rw [← hG.out.2.1]; exact kC.cell 0, by rw [← hwv.out, ← hG.out.2.2.2.2.1]; exact kC.cell 5, by rw [← htv.out, ← hG.out.2.2.2.1]; exact kC.cell 2⟩) (fun _ => ?_)
  clear hKQ KQ
  try simp only [Act.put, ka, kb, kc]
  iterate 3 (refine tx 13 _ ?_; try simp only [Act.put, ka, kb, kc])
  refine kit.tv 16 ?_
  try simp only [Act.put, ka, kb, kc]
  refine kit.tv 17 ?_
  try simp only [Act.put, ka, kb, kc]
  refine kit.tv 18 ?_
  try simp only [Act.put, ka, kb, kc]
  refine tj 19 _ ?_
  try simp only [Act.put, ka, kb, kc]
  refine wpAnyH_done (by kernel_rfl) ?_ _
  have hE := Lh (hN.out (by rw [decide_eq_false (p := pv ≤ wv + 1) (by omega)]; rfl))
  have hO := OutL.nil y8 y8.heap.size
  have hB7 := Lh (HB.size)
  have RB := R1
  have RBz := Lh (Nat.le_refl y8.heap.size)
  have LBhOkC := Lh kC.lt
  have LBhOkO := Lh kO.lt
  have NIRBkO := NIR1kO
  obtain ⟨B9, hB9⟩ : ∃ q, y8.heap.size = q := ⟨_, rfl⟩
  rw [hB9] at hO hB7 RB RBz LBhOkC LBhOkO
  replace RBz := Lh (show B9 ≤ y8.heap.size by rw [hB9]; exact Nat.le_refl _)
  clear hB9
  go_wp2_with (first | refine st_C rfl _ _ rfl d A1 n1 p1 rfl rfl _ kO rfl ?_ | (first | refine lo_Cj kC ?_ | refine lo_cLj kC ?_ | refine lo_cJj kC ?_ | refine lo_Cj kO ?_ | refine lo_cLj kO ?_ | refine lo_cJj kO ?_))
  intro y10 kO2 pO
  replace kC := kC.put pO (Nat.ne_of_lt LTkCkO.out)
  replace R0 := R0.putS pO NIR0kO.out
  replace R1 := R1.putS pO NIR1kO.out
  replace hO := hO.put pO LBhOkO.out
  replace RB := RB.putN pO NIRBkO.out
  replace RBz := Lh (Nat.le_trans RBz.out (Nat.le_of_eq pO.size.symm))
  replace HB := pO.below _ _ HB LEkO.out
  clear kO
  have kO := kO2
  clear kO2 pO
  go_wp2_with (first | refine lo_Cj kC ?_ | refine lo_cLj kC ?_ | refine lo_cJj kC ?_ | refine lo_Cj kO ?_ | refine lo_cLj kO ?_ | refine lo_cJj kO ?_)
  (try simp only [Exit.inBlock, Exit.then])
  refine bodyPost_ret (res2 Tryz.results17 rfl rfl (aggC _) (sizeC _) (ldCv kO)) rfl ?_
  rw [hE.out]
  exact ⟨A1, n1, p1, _, B9, rfl, RB, hp1, ON12.out, hO, hB7.out, RBz.out, HB⟩
 have hl2 := Lh hlt
 clear hlt
 by_cases hmx : (1099511627776 : Int) ≤ tv
 ·
  have hmg := Lh hmx
  clear hmx
  refine wp_region_held_drew (S := fun wq => At wq w.heap.size 8 (lgC d.lg (.slice A1 n1 p1)) ∧ wq.cell? ⟨w.heap.size, 0, none⟩ = some (.int .i64 c.id) ∧ wq.cell? ⟨w.heap.size, 5, none⟩ = some (.int .i64 (wv + 1)) ∧ wq.cell? ⟨w.heap.size, 2, none⟩ = some (.int .i64 tv)) (by kernel_rfl) ?s_tki5c (fun hHeld => ?_)
  case s_tki5c => exact ⟨at_cL kC, by rw [← hG.out.2.1]; exact kC.cell 0, by rw [← hwv.out, ← hG.out.2.2.2.2.1]; exact kC.cell 5, by rw [← htv.out, ← hG.out.2.2.2.1]; exact kC.cell 2⟩
  have hD := (Below.refl y5.heap.size y5).drew
  replace HB := bt HB hD
  replace kC := kC.b hD
  replace kO := kO.b hD
  replace R0 := R0.on hD hD.size
  replace R1 := R1.on hD hD.size
  clear hD
  generalize y5.drew = y6 at *
  refine tj 0 _ ?_
  try simp only [Act.put, ka, kb, kc]
  refine tj 1 ((lgV d.lg (.slice A1 n1 p1))) ?_ (hy := fun wq hSw => run_ldAt rfl rfl hSw.1 (aggL _) (sizeL _))
  try simp only [Act.put, ka, kb, kc]
  iterate 2 (refine tx 3 _ ?_; try simp only [Act.put, ka, kb, kc])
  refine rr [2] ?_
  refine rc (fun KQ hKQ => ?_) AllReadyH.nil
  go_simp
  have CC := enti.conf_any d.lg A1 n1 p1 y6 y6.heap.size R1 (Nat.le_refl _) hp1 hG.out.1.1
  refine (CC).mono ?_
  rintro e y7 ⟨rfl, hY⟩
  replace HB := bt HB hY
  replace kC := kC.b hY
  replace kO := kO.b hY
  replace R0 := R0.on hY hY.size
  replace R1 := R1.on hY hY.size
  clear hY
  clear CC
  go_wp2_with fail
  refine hKQ.out _ _ (⟨at_cL kC, by rw [← hG.out.2.1]; exact kC.cell 0, by rw [← hwv.out, ← hG.out.2.2.2.2.1]; exact kC.cell 5, by rw [← htv.out, ← hG.out.2.2.2.1]; exact kC.cell 2⟩) (fun _ => ?_)
  clear hKQ KQ
  try simp only [Act.put, ka, kb, kc]
  refine rr [5] ?_
  refine rc (fun KQ hKQ => ?_) AllReadyH.nil
  go_simp
  have CC := confi.leads_any (conC d) c.id y7 hG.out.1.2.2.2.2.1 (by have := hid.out; omega) (by have := hid.out; omega)
  rw [hlbd.out] at CC
  refine (CC).mono ?_
  rintro e y8 ⟨rfl, hY⟩
  replace HB := bt HB hY
  replace kC := kC.b hY
  replace kO := kO.b hY
  replace R0 := R0.on hY hY.size
  replace R1 := R1.on hY hY.size
  clear hY
  clear CC
  go_wp2_with fail
  refine hKQ.out _ _ (⟨at_cL kC, by rw [← hG.out.2.1]; exact kC.cell 0, by rw [← hwv.out, ← hG.out.2.2.2.2.1]; exact kC.cell 5, by rw [← htv.out, ← hG.out.2.2.2.1]; exact kC.cell 2⟩) (fun _ => ?_)
  clear hKQ KQ
  try simp only [Act.put, ka, kb, kc]
  iterate 6 (refine tx 6 _ ?_; try simp only [Act.put, ka, kb, kc])
  refine rr [12] ?_
  refine rc (fun KQ hKQ => ?_) AllReadyH.nil
  go_simp
  have CC := pat_any c.id y8 (by have := hid.out; omega)
  rw [hpv.out] at CC
  refine (CC).mono ?_
  rintro e y9 ⟨rfl, hW⟩
  subst hW
  clear CC
  go_wp2_with fail
  refine hKQ.out _ _ (⟨at_cL kC, by rw [← hG.out.2.1]; exact kC.cell 0, by rw [← hwv.out, ← hG.out.2.2.2.2.1]; exact kC.cell 5, by rw [← htv.out, ← hG.out.2.2.2.1]; exact kC.cell 2⟩) (fun _ => ?_)
  clear hKQ KQ
  try simp only [Act.put, ka, kb, kc]
  refine tj 13 ((.bool false)) ?_ (hy := fun wq hSw => ref13.rb_lss rfl rfl rfl (decide_eq_false (by have := hl2.out; omega)))
  try simp only [Act.put, ka, kb, kc]
  iterate 4 (refine tx 14 _ ?_; try simp only [Act.put, ka, kb, kc])
  refine tj 18 ((.bool true)) ?_ (hy := fun wq hSw => ref13.rb_geq rfl rfl rfl (decide_eq_true (by have := hmg.out; omega)))
  try simp only [Act.put, ka, kb, kc]
  refine tj 19 _ ?_
  try simp only [Act.put, ka, kb, kc]
  refine wpAnyH_done (by kernel_rfl) ?_ _
  have hE := Lh (hN.out (by rw [decide_eq_false (p := tv < 1099511627776) (by have := hmg.out; omega), Bool.and_false]))
  have hO := OutL.nil y8 y8.heap.size
  have hB7 := Lh (HB.size)
  have RB := R1
  have RBz := Lh (Nat.le_refl y8.heap.size)
  have LBhOkC := Lh kC.lt
  have LBhOkO := Lh kO.lt
  have NIRBkO := NIR1kO
  obtain ⟨B9, hB9⟩ : ∃ q, y8.heap.size = q := ⟨_, rfl⟩
  rw [hB9] at hO hB7 RB RBz LBhOkC LBhOkO
  replace RBz := Lh (show B9 ≤ y8.heap.size by rw [hB9]; exact Nat.le_refl _)
  clear hB9
  go_wp2_with (first | refine st_C rfl _ _ rfl d A1 n1 p1 rfl rfl _ kO rfl ?_ | (first | refine lo_Cj kC ?_ | refine lo_cLj kC ?_ | refine lo_cJj kC ?_ | refine lo_Cj kO ?_ | refine lo_cLj kO ?_ | refine lo_cJj kO ?_))
  intro y10 kO2 pO
  replace kC := kC.put pO (Nat.ne_of_lt LTkCkO.out)
  replace R0 := R0.putS pO NIR0kO.out
  replace R1 := R1.putS pO NIR1kO.out
  replace hO := hO.put pO LBhOkO.out
  replace RB := RB.putN pO NIRBkO.out
  replace RBz := Lh (Nat.le_trans RBz.out (Nat.le_of_eq pO.size.symm))
  replace HB := pO.below _ _ HB LEkO.out
  clear kO
  have kO := kO2
  clear kO2 pO
  go_wp2_with (first | refine lo_Cj kC ?_ | refine lo_cLj kC ?_ | refine lo_cJj kC ?_ | refine lo_Cj kO ?_ | refine lo_cLj kO ?_ | refine lo_cJj kO ?_)
  (try simp only [Exit.inBlock, Exit.then])
  refine bodyPost_ret (res2 Tryz.results17 rfl rfl (aggC _) (sizeC _) (ldCv kO)) rfl ?_
  rw [hE.out]
  exact ⟨A1, n1, p1, _, B9, rfl, RB, hp1, ON12.out, hO, hB7.out, RBz.out, HB⟩
 have hmg := Lh hmx
 clear hmx
 refine wp_region_held_drew (S := fun wq => At wq w.heap.size 8 (lgC d.lg (.slice A1 n1 p1)) ∧ wq.cell? ⟨w.heap.size, 0, none⟩ = some (.int .i64 c.id) ∧ wq.cell? ⟨w.heap.size, 5, none⟩ = some (.int .i64 (wv + 1)) ∧ wq.cell? ⟨w.heap.size, 2, none⟩ = some (.int .i64 tv)) (by kernel_rfl) ?s_tki5d (fun hHeld => ?_)
 case s_tki5d => exact ⟨at_cL kC, by rw [← hG.out.2.1]; exact kC.cell 0, by rw [← hwv.out, ← hG.out.2.2.2.2.1]; exact kC.cell 5, by rw [← htv.out, ← hG.out.2.2.2.1]; exact kC.cell 2⟩
 have hD := (Below.refl y5.heap.size y5).drew
 replace HB := bt HB hD
 replace kC := kC.b hD
 replace kO := kO.b hD
 replace R0 := R0.on hD hD.size
 replace R1 := R1.on hD hD.size
 clear hD
 generalize y5.drew = y6 at *
 refine tj 0 _ ?_
 try simp only [Act.put, ka, kb, kc]
 refine tj 1 ((lgV d.lg (.slice A1 n1 p1))) ?_ (hy := fun wq hSw => run_ldAt rfl rfl hSw.1 (aggL _) (sizeL _))
 try simp only [Act.put, ka, kb, kc]
 iterate 2 (refine tx 3 _ ?_; try simp only [Act.put, ka, kb, kc])
 refine rr [2] ?_
 refine rc (fun KQ hKQ => ?_) AllReadyH.nil
 go_simp
 have CC := enti.conf_any d.lg A1 n1 p1 y6 y6.heap.size R1 (Nat.le_refl _) hp1 hG.out.1.1
 refine (CC).mono ?_
 rintro e y7 ⟨rfl, hY⟩
 replace HB := bt HB hY
 replace kC := kC.b hY
 replace kO := kO.b hY
 replace R0 := R0.on hY hY.size
 replace R1 := R1.on hY hY.size
 clear hY
 clear CC
 go_wp2_with fail
 refine hKQ.out _ _ (⟨at_cL kC, by rw [← hG.out.2.1]; exact kC.cell 0, by rw [← hwv.out, ← hG.out.2.2.2.2.1]; exact kC.cell 5, by rw [← htv.out, ← hG.out.2.2.2.1]; exact kC.cell 2⟩) (fun _ => ?_)
 clear hKQ KQ
 try simp only [Act.put, ka, kb, kc]
 refine rr [5] ?_
 refine rc (fun KQ hKQ => ?_) AllReadyH.nil
 go_simp
 have CC := confi.leads_any (conC d) c.id y7 hG.out.1.2.2.2.2.1 (by have := hid.out; omega) (by have := hid.out; omega)
 rw [hlbd.out] at CC
 refine (CC).mono ?_
 rintro e y8 ⟨rfl, hY⟩
 replace HB := bt HB hY
 replace kC := kC.b hY
 replace kO := kO.b hY
 replace R0 := R0.on hY hY.size
 replace R1 := R1.on hY hY.size
 clear hY
 clear CC
 go_wp2_with fail
 refine hKQ.out _ _ (⟨at_cL kC, by rw [← hG.out.2.1]; exact kC.cell 0, by rw [← hwv.out, ← hG.out.2.2.2.2.1]; exact kC.cell 5, by rw [← htv.out, ← hG.out.2.2.2.1]; exact kC.cell 2⟩) (fun _ => ?_)
 clear hKQ KQ
 try simp only [Act.put, ka, kb, kc]
 iterate 6 (refine tx 6 _ ?_; try simp only [Act.put, ka, kb, kc])
 refine rr [12] ?_
 refine rc (fun KQ hKQ => ?_) AllReadyH.nil
 go_simp
 have CC := pat_any c.id y8 (by have := hid.out; omega)
 rw [hpv.out] at CC
 refine (CC).mono ?_
 rintro e y9 ⟨rfl, hW⟩
 subst hW
 clear CC
 go_wp2_with fail
 refine hKQ.out _ _ (⟨at_cL kC, by rw [← hG.out.2.1]; exact kC.cell 0, by rw [← hwv.out, ← hG.out.2.2.2.2.1]; exact kC.cell 5, by rw [← htv.out, ← hG.out.2.2.2.1]; exact kC.cell 2⟩) (fun _ => ?_)
 clear hKQ KQ
 try simp only [Act.put, ka, kb, kc]
 refine tj 13 ((.bool false)) ?_ (hy := fun wq hSw => ref13.rb_lss rfl rfl rfl (decide_eq_false (by have := hl2.out; omega)))
 try simp only [Act.put, ka, kb, kc]
 iterate 4 (refine tx 14 _ ?_; try simp only [Act.put, ka, kb, kc])
 refine tj 18 ((.bool false)) ?_ (hy := fun wq hSw => ref13.rb_geq rfl rfl rfl (decide_eq_false (by have := hmg.out; omega)))
 try simp only [Act.put, ka, kb, kc]
 refine tj 19 _ ?_
 try simp only [Act.put, ka, kb, kc]
 refine wpAnyH_done (by kernel_rfl) ?_ _
 have hE := Lh (hSt.out (by rw [decide_eq_true (p := pv ≤ wv + 1) (by have := hl2.out; omega), decide_eq_true (p := tv < 1099511627776) (by have := hmg.out; omega)]; rfl))
 go_wp2_with (first | refine lo_Cj kC ?_ | refine lo_cLj kC ?_ | refine lo_cJj kC ?_ | refine lo_Cj kO ?_ | refine lo_cLj kO ?_ | refine lo_cJj kO ?_)
 refine (stand_any d A1 n1 p1 y8 y8.heap.size R1 (Nat.le_refl _) hp1 hG.out.1 (by rw [hG.out.2.1]; exact hid.out.1) (by rw [hG.out.2.2.1]; exact HK.out.la) (by rw [hG.out.2.2.2.1]; exact HK.out.tm)).mono ?_
 rintro e y10 ⟨A9, n9, p9, v9, B9, rfl, RB, hp9, ON9, hO, hB9, hB8, hY⟩
 have LBhOkC := Lh (Nat.lt_of_lt_of_le kC.lt hB9)
 have NIRBkO := Lh (NIR1kO.out.next ON9 kO.lt)
 have LBhOkO := Lh (Nat.lt_of_lt_of_le kO.lt hB9)
 have ON92 := Lh (ON12.out.trans ON9 HB.size)
 clear ON9
 have hB7 := Lh (Nat.le_trans HB.size hB9)
 have RBz := Lh hB8
 clear hB8 hB9
 replace HB := bt HB hY
 replace kC := kC.b hY
 replace kO := kO.b hY
 replace R0 := R0.on hY hY.size
 replace R1 := R1.on hY hY.size
 clear hY
 go_wp2_with (first | refine st_C rfl _ _ rfl (stF d).1 A9 n9 p9 rfl rfl _ kO rfl ?_ | (first | refine lo_Cj kC ?_ | refine lo_cLj kC ?_ | refine lo_cJj kC ?_ | refine lo_Cj kO ?_ | refine lo_cLj kO ?_ | refine lo_cJj kO ?_))
 intro y11 kO2 pO
 replace kC := kC.put pO (Nat.ne_of_lt LTkCkO.out)
 replace R0 := R0.putS pO NIR0kO.out
 replace R1 := R1.putS pO NIR1kO.out
 replace hO := hO.put pO LBhOkO.out
 replace RB := RB.putN pO NIRBkO.out
 replace RBz := Lh (Nat.le_trans RBz.out (Nat.le_of_eq pO.size.symm))
 replace HB := pO.below _ _ HB LEkO.out
 clear kO
 have kO := kO2
 clear kO2 pO
 go_wp2_with (first | refine lo_Cj kC ?_ | refine lo_cLj kC ?_ | refine lo_cJj kC ?_ | refine lo_Cj kO ?_ | refine lo_cLj kO ?_ | refine lo_cJj kO ?_)
 (try simp only [Exit.inBlock, Exit.then])
 refine bodyPost_ret (res2 Tryz.results17 rfl rfl (aggC _) (sizeC _) (ldCv kO)) rfl ?_
 rw [hE.out]
 exact ⟨A9, n9, p9, v9, B9, rfl, RB, hp9, ON92.out, hO, hB7.out, RBz.out, HB⟩
end Go.Proofs.YtegnfkbmlalkeaaGreat.cor
