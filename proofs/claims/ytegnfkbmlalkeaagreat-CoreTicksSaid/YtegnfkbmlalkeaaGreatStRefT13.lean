/- The document's Tick of a leader. Conditions: those that the theorem names. -/
import Derived.Deep.RegionHeld3
import Derived.Deep.Cut
import Derived.Lib.Hide
import Derived.Test.YtegnfkbmlalkeaaGreatStJ3
import Derived.Test.YtegnfkbmlalkeaaGreatStJ0
import Derived.Test.YtegnfkbmlalkeaaGreatStJ6
import Derived.Test.YtegnfkbmlalkeaaGreatStKitLg
set_option linter.unusedVariables false
set_option maxHeartbeats 16000000
set_option maxRecDepth 10000
namespace Go.Proofs.YtegnfkbmlalkeaaGreat.ref13
open Go Go.RowKit kit nums cf lg cr se
theorem tick_lead (c : CoL) (A : Option Addr) (n p : Nat) (w : World) (B : Nat) (hR : RdE w B A n c.lg.es) (hB : B ≤ w.heap.size) (hp : n ≤ p) (hk : GoodK c) (hro : c.ro = 2) : Calls Tryz.prog 18 #[crV c (.slice A n p)] w fun e w' => ∃ A' n' p' v, e = .returned (.tuple #[crV (tickF c).1 (.slice A' n' p'), v]) ∧ RdE w' w'.heap.size A' n' (tickF c).1.lg.es ∧ n' ≤ p' ∧ RdMs w' v (tickF c).2 ∧ Below w.heap.size w w' := by
 have HK := Lh hk
 have HF := Lh hk.n.1
 have R0 := hR.more hB
 clear hR hB hk
 have hid := Lh (show 1 ≤ c.id ∧ c.id ≤ 9 from ⟨HK.out.id1, HK.out.n.2.2.2.1⟩)
 have hwa := HK.out.wa
 have htm := HK.out.tm
 obtain ⟨c1, hc1⟩ : ∃ q : CoL, q = { c with wa := c.wa + 1 } := ⟨_, rfl⟩
 replace hwa := Lh hwa
 replace htm := Lh htm
 have hTk := Lh (tick_parts c)
 rw [← hc1] at hTk
 have hc1e := Lh hc1
 have hG1 : Hid (GoodN c1 700000 ∧ c1.lg = c.lg ∧ c1.id = c.id ∧ c1.tm = c.tm ∧ c1.wa = c.wa + 1 ∧ c1.he = c.he ∧ c1.nx = c.nx ∧ c1.cm = c.cm) := by show _ ∧ _; rw [hc1]; exact ⟨HK.out.n, rfl, rfl, rfl, rfl, rfl, rfl, rfl⟩
 clear hc1
 go_enter Tryz.func18, Tryz.ntmps18
 go_wp2_with (refine box_C rfl _ rfl c (.slice A n p) rfl ?_)
 intro y1 kC e1 s1
 clear s1
 have HB := e1
 replace R0 := R0.on e1 e1.size
 clear e1
 go_wp2_with (first | refine al_C rfl rfl ?_ | (first | refine lo_Cj kC ?_ | refine lo_cLj kC ?_ | refine lo_cJj kC ?_))
 intro y2 kO e2 s2
 clear s2
 replace kO : Blk _ _ _ (crC zC (.slice none 0 0)) := kO
 have LTkCkO := Lh kC.lt
 replace HB := bt HB e2
 replace kC := kC.b e2
 replace R0 := R0.on e2 e2.size
 clear e2
 generalize y1.heap.size = gkO at *
 go_wp2_with (first | refine lo_Cj kC ?_ | refine lo_cLj kC ?_ | refine lo_cJj kC ?_ | refine lo_Cj kO ?_ | refine lo_cLj kO ?_ | refine lo_cJj kO ?_)
 have CC := begin_any c A n p y2 y2.heap.size R0 (Nat.le_refl _) hp HF.out
 have hzO := Lh kO.lt
 have hzC := Lh kC.lt
 have hsz0 := Lh HB.size
 refine CC.mono ?_
 rintro e2 yB ⟨g, rfl, hI, hY, hgg⟩
 clear CC
 replace HB := bt HB hY
 replace kC := kC.b hY
 replace kO := kO.b hY
 replace R0 := R0.on hY hY.size
 clear hY
 generalize hlo : y2.heap.size = lo at *
 replace hlo := Lh hlo
 have HB0 := Lh HB
 have HB0 := Lh HB
 clear HB R0
 have hlg := Lh hgg
 have akC : Ap g ⟨none, lo⟩ w.heap.size := ⟨Nat.ne_of_lt (Nat.lt_of_lt_of_le hzC.out hgg), fun h => by cases h⟩
 have akO : Ap g ⟨none, lo⟩ gkO := ⟨Nat.ne_of_lt (Nat.lt_of_lt_of_le hzO.out hgg), fun h => by cases h⟩
 clear hgg
 obtain ⟨A0, n0, p0, v0, kR, hR⟩ := hI
 have HC := Ch.refl g ⟨none, lo⟩ yB
 have HN := Nx.refl ⟨none, lo⟩ yB
 have ww : IntKind.i64.wrap (c.wa + 1) = c.wa + 1 := by have := hwa.out; rw [wrap_sm (by omega) (by omega)]
 have df := fun i => kR.frozen i
 have cR5 : _ = some _ := kR.cell 5
 go_upto_region 3 with (fail)
 clear df cR5
 have kR2 : Blk 99 _ g (rnC { c with wa := c.wa + 1 } (.slice A0 n0 p0) v0) := kR.set_ 5 (.int .i64 (c.wa + 1))
 have pO := put_set yB g (5) (.int .i64 (c.wa + 1))
 clear kR
 generalize (yB.setCell ⟨g, 5, none⟩ (.int .i64 (c.wa + 1))) = y41 at *
 replace kC := kC.put pO akC.1
 replace kO := kO.put pO akO.1
 replace hR := hR.put pO
 replace HC := HC.trans HN (Ch.of_put _ pO pO.low)
 have kR := kR2
 clear kR2 pO
 rw [← hc1e.out] at kR
 have hesE : c.lg.es = c1.lg.es := by rw [hG1.out.2.1]
 rw [hesE] at hR
 clear hesE ww
 have hlw : Hid (w.heap.size ≤ lo) := Nat.le_trans (Nat.le_of_lt hzC.out) (Nat.le_refl _)
 have hwO : Hid (w.heap.size ≤ gkO) := Nat.le_of_lt LTkCkO.out
 have cro : _ = some (Value.int .i64 c.ro) := kC.cell 1
 have hb : (c.ro == 2) = true := by simp [hro]
 have hwa1 := hG1.out.2.2.2.2.1
 obtain ⟨wv, hwv⟩ : ∃ q, c1.wa = q := ⟨_, rfl⟩
 have hb : (c.ro == 2) = true := by simp [hro]
 obtain ⟨wv, hwv⟩ : ∃ q, c1.wa = q := ⟨_, rfl⟩
 have hwv1 : 0 ≤ wv ∧ wv ≤ 1099511627777 := by rw [← hwv, hG1.out.2.2.2.2.1]; have := hwa.out; omega
 have hrm : Int.tmod wv 2 = wv % 2 := Int.tmod_eq_emod_of_nonneg hwv1.1
 have cwa : y41.cell? ⟨g, 5, none⟩ = some (Value.int .i64 wv) := by rw [← hwv]; exact kR.cell 5
 replace hwv := Lh hwv
 replace hwv1 := Lh hwv1
 by_cases hev : wv % 2 = 0
 ·
  have hbe : (wv % 2 == 0) = true := by simp [hev]
  have hnw : Hid (∀ n : Int, 1 ≤ n → n ≤ 9 → 0 ≤ nxF c1 n ∧ nxF c1 n ≤ 2199023255552) := fun n h1 h2 => by
   show 0 ≤ c1.nx n.toNat ∧ c1.nx n.toNat ≤ _
   rw [hG1.out.2.2.2.2.2.2.1]; exact HK.out.nx n.toNat (by omega)
  go_wp2_with (first | refine lo_Cj kC ?_ | refine lo_cLj kC ?_ | refine lo_cJj kC ?_ | refine lo_Cj kO ?_ | refine lo_cLj kO ?_ | refine lo_cJj kO ?_ | refine lo_rLj kR ?_ | refine lo_rCj kR ?_)
  clear cro cwa
  refine (all_any g c1 _ _ y41 ⟨_, _, _, _, kR, hR⟩ hG1.out.1.1 hG1.out.1.2.2.2.2.1 hG1.out.1.2.2.2.2.2.1 hnw.out (Nat.zero_le _)).mono ?_
  rintro e y42 ⟨rfl, o42, ⟨A42, n42, p42, v42, kR2, hR2⟩, hc, hn⟩
  have a2 := akC.next hn kC.lt
  replace kC := kC.ch hc akC
  replace akC := a2
  clear a2
  have a2 := akO.next hn kO.lt
  replace kO := kO.ch hc akO
  replace akO := a2
  clear a2
  have HN2 := HN.trans HC.size hn
  replace HC := HC.trans HN hc
  replace HN := HN2
  clear HN2 kR hR hc hn
  have kR := kR2
  have hR := hR2
  clear kR2 hR2
  have cwa : y42.cell? ⟨g, 5, none⟩ = some (Value.int .i64 wv) := by rw [← hwv.out]; exact kR.cell 5
  by_cases h10 : wv = 10
  ·
   have hb10 : (wv == 10) = true := by simp [h10]
   replace h10 := Lh h10
   go_upto_region 7 with (first | refine lo_Cj kC ?_ | refine lo_cLj kC ?_ | refine lo_cJj kC ?_ | refine lo_Cj kO ?_ | refine lo_cLj kO ?_ | refine lo_cJj kO ?_ | refine lo_rLj kR ?_ | refine lo_rCj kR ?_)
   clear cwa
   refine wp_region_held_drew (S := fun wq => wq.cell? ⟨g, 24, none⟩ = some (.int .u16 (c1.he : Int)) ∧ wq.cell? ⟨g, 0, none⟩ = some (.int .i64 c1.id)) (by kernel_rfl) ?s_tck7a (fun hHeld => ?_)
   case s_tck7a => exact ⟨kR.cell 24, kR.cell 0⟩
   have hD := (Below.refl y42.heap.size y42).drew
   replace HC := HC.trans HN (Ch.of_below g _ hD)
   replace kC := kC.b hD
   replace kO := kO.b hD
   replace kR := kR.b hD
   replace hR := hR.below hD
   clear hD
   generalize y42.drew = y43 at *
   refine tj 0 _ ?_
   try simp only [Act.put, ka, kb, kc]
   iterate 10 (refine tx 2 _ ?_; try simp only [Act.put, ka, kb, kc])
   refine rr [1] ?_
   refine rc (fun KQ hKQ => ?_) AllReadyH.nil
   go_simp
   have CC := conf_any g c1 _ _ y43 ⟨_, _, _, _, kR, hR⟩ hG1.out.1.1
   refine (CC).mono ?_
   rintro e y44 ⟨rfl, hY⟩
   replace HC := HC.trans HN (Ch.of_below g _ hY)
   replace kC := kC.b hY
   replace kO := kO.b hY
   replace kR := kR.b hY
   replace hR := hR.below hY
   clear hY
   clear CC
   go_wp2_with fail
   refine hKQ.out _ _ (⟨kR.cell 24, kR.cell 0⟩) (fun _ => ?_)
   clear hKQ KQ
   try simp only [Act.put, ka, kb, kc]
   refine rr [12] ?_
   refine rc (fun KQ hKQ => ?_) AllReadyH.nil
   go_simp
   have CC := ref9.with_any c1.he c1.id y44 (by rw [hG1.out.2.2.2.2.2.1]; exact HK.out.he) (by have := hid.out; rw [hG1.out.2.2.1]; omega) (by have := hid.out; rw [hG1.out.2.2.1]; omega)
   refine CC.mono ?_
   rintro e2 y2 ⟨rfl, rfl⟩
   clear CC
   go_wp2_with fail
   refine hKQ.out _ _ (⟨kR.cell 24, kR.cell 0⟩) (fun _ => ?_)
   clear hKQ KQ
   try simp only [Act.put, ka, kb, kc]
   refine rr [13] ?_
   refine rc (fun KQ hKQ => ?_) AllReadyH.nil
   go_simp
   have CC := ref10.commits_any (conC c1) (withF c1.he c1.id) y44 hG1.out.1.2.2.2.2.1 (withF_lt _ (by rw [hG1.out.2.2.2.2.2.1]; exact HK.out.he)) hG1.out.1.2.2.2.2.2.1
   obtain ⟨pz, hpz⟩ : ∃ q, coJ (conC c1) (withF c1.he c1.id) = q := ⟨_, rfl⟩
   rw [hpz] at CC
   replace hpz := Lh hpz
   refine (CC).mono ?_
   rintro e y45 ⟨rfl, hY⟩
   replace HC := HC.trans HN (Ch.of_below g _ hY)
   replace kC := kC.b hY
   replace kO := kO.b hY
   replace kR := kR.b hY
   replace hR := hR.below hY
   clear hY
   clear CC
   go_wp2_with fail
   refine hKQ.out _ _ (⟨kR.cell 24, kR.cell 0⟩) (fun _ => ?_)
   clear hKQ KQ
   try simp only [Act.put, ka, kb, kc]
   refine wpAnyH_done (by kernel_rfl) ?_ _
   rcases pz with _ | _
   ·
    go_wp2_with fail
    refine (yields_any g c1 _ _ y45 ⟨_, _, _, _, kR, hR⟩).mono ?_
    rintro e y46 ⟨rfl, o46, ⟨A46, n46, p46, v46, kR2, hR2⟩, hc, hn⟩
    have a2 := akC.next hn kC.lt
    replace kC := kC.ch hc akC
    replace akC := a2
    clear a2
    have a2 := akO.next hn kO.lt
    replace kO := kO.ch hc akO
    replace akO := a2
    clear a2
    have HN2 := HN.trans HC.size hn
    replace HC := HC.trans HN hc
    replace HN := HN2
    clear HN2 kR hR hc hn
    have kR := kR2
    have hR := hR2
    clear kR2 hR2
    go_upto_region 10 with (first | refine lo_Cj kC ?_ | refine lo_cLj kC ?_ | refine lo_cJj kC ?_ | refine lo_Cj kO ?_ | refine lo_cLj kO ?_ | refine lo_cJj kO ?_ | refine lo_rLj kR ?_ | refine lo_rCj kR ?_)
    refine wp_region_held_drew (S := fun wq => Blk 99 wq g (rnC (yieC c1) (.slice A46 n46 p46) v46) ∧ wq.cell? ⟨g, 45, none⟩ = some v46) (by kernel_rfl) ?s_tckAa (fun hHeld => ?_)
    case s_tckAa => exact ⟨kR, kR.cell 45⟩
    have hD := (Below.refl y46.heap.size y46).drew
    replace HC := HC.trans HN (Ch.of_below g _ hD)
    replace kC := kC.b hD
    replace kO := kO.b hD
    replace kR := kR.b hD
    replace hR := hR.below hD
    clear hD
    generalize y46.drew = y47 at *
    iterate 3 (refine tx 0 _ ?_; try simp only [Act.put, ka, kb, kc])
    refine tj 3 _ ?_ (hy := fun wq hSw => rld_rC rfl rfl (And.left hSw))
    try simp only [Act.put, ka, kb, kc]
    iterate 4 (refine tx 4 _ ?_; try simp only [Act.put, ka, kb, kc])
    refine rr [8] ?_
    refine rc (fun KQ hKQ => ?_) AllReadyH.nil
    refine step_stAt rfl 33 _ _ rfl (cells := (crC (yieC c1) (.slice A46 n46 p46)).toArray) (crC (yieC c1) (.slice A46 n46 p46)) rfl rfl kO sizeCv (by show 0 + 45 ≤ 45; omega) (cr_one _) rfl ?_
    intro yz kO2 pO
    have kR2 := kR.put pO (Ne.symm akO.1)
    have hR2 := hR.far pO (by rw [HN.2]; exact hzO.out)
    clear kO kR
    have kR := kR2
    clear kR2
    refine hKQ.out _ _ (⟨kR, kR.cell 45⟩) (fun _ => ?_)
    clear hKQ KQ
    try simp only [Act.put]
    refine tj 9 _ ?_
    try simp only [Act.put, ka, kb, kc]
    refine wpAnyH_done (by kernel_rfl) ?_ _
    go_wp2_with fail
    (try simp only [Exit.inBlock, Exit.then])
    refine bodyPost_ret (res2 Tryz.results18 rfl rfl (aggC _) (sizeC _) (ldCv kO2)) rfl ?_
    have hfin : tickF c = (yieC c1, [] ++ allF c1) := by rw [hTk.out.1 hro, hwv.out, if_pos h10.out, hpz.out, if_pos hev]; rfl
    rw [hfin]
    have hR3 := hR2
    have HZ := HC.low (B := w.heap.size) (Nat.le_trans hlw.out hlg.out) (fun k h => by cases h) HB0.out.size
    exact ⟨_, _, _, _, rfl, hR2.rd, hR2.cap, RdMs.of_run hR2, pO.below _ _ (HB0.out.trans HZ) hwO.out⟩
   ·
    have df := fun i => kR.frozen i
    have cR24 : _ = some _ := kR.cell 24
    have cR5 : _ = some _ := kR.cell 5
    go_upto_region 10 with (fail)
    clear df cR24 cR5
    have kR2 : Blk 99 _ g (rnC { c1 with he := 0 } (.slice A42 n42 p42) v42) := kR.set_ 24 (.int .u16 0)
    have pO := put_set y45 g (24) (.int .u16 0)
    clear kR
    generalize (y45.setCell ⟨g, 24, none⟩ (.int .u16 0)) = y46 at *
    replace kC := kC.put pO akC.1
    replace kO := kO.put pO akO.1
    replace hR := hR.put pO
    replace HC := HC.trans HN (Ch.of_put _ pO pO.low)
    have kR := kR2
    clear kR2 pO
    have kR2 : Blk 99 _ g (rnC { c1 with he := 0, wa := 0 } (.slice A42 n42 p42) v42) := kR.set_ 5 (.int .i64 0)
    have pO := put_set y46 g (5) (.int .i64 0)
    clear kR
    generalize (y46.setCell ⟨g, 5, none⟩ (.int .i64 0)) = y47 at *
    replace kC := kC.put pO akC.1
    replace kO := kO.put pO akO.1
    replace hR := hR.put pO
    replace HC := HC.trans HN (Ch.of_put _ pO pO.low)
    have kR := kR2
    clear kR2 pO
    go_upto_region 10 with (first | refine lo_Cj kC ?_ | refine lo_cLj kC ?_ | refine lo_cJj kC ?_ | refine lo_Cj kO ?_ | refine lo_cLj kO ?_ | refine lo_cJj kO ?_ | refine lo_rLj kR ?_ | refine lo_rCj kR ?_)
    refine wp_region_held_drew (S := fun wq => Blk 99 wq g (rnC { c1 with he := 0, wa := 0 } (.slice A42 n42 p42) v42) ∧ wq.cell? ⟨g, 45, none⟩ = some v42) (by kernel_rfl) ?s_tckBa (fun hHeld => ?_)
    case s_tckBa => exact ⟨kR, kR.cell 45⟩
    have hD := (Below.refl y47.heap.size y47).drew
    replace HC := HC.trans HN (Ch.of_below g _ hD)
    replace kC := kC.b hD
    replace kO := kO.b hD
    replace kR := kR.b hD
    replace hR := hR.below hD
    clear hD
    generalize y47.drew = y48 at *
    iterate 3 (refine tx 0 _ ?_; try simp only [Act.put, ka, kb, kc])
    refine tj 3 _ ?_ (hy := fun wq hSw => rld_rC rfl rfl (And.left hSw))
    try simp only [Act.put, ka, kb, kc]
    iterate 4 (refine tx 4 _ ?_; try simp only [Act.put, ka, kb, kc])
    refine rr [8] ?_
    refine rc (fun KQ hKQ => ?_) AllReadyH.nil
    refine step_stAt rfl 33 _ _ rfl (cells := (crC { c1 with he := 0, wa := 0 } (.slice A42 n42 p42)).toArray) (crC { c1 with he := 0, wa := 0 } (.slice A42 n42 p42)) rfl rfl kO sizeCv (by show 0 + 45 ≤ 45; omega) (cr_one _) rfl ?_
    intro yz kO2 pO
    have kR2 := kR.put pO (Ne.symm akO.1)
    have hR2 := hR.far pO (by rw [HN.2]; exact hzO.out)
    clear kO kR
    have kR := kR2
    clear kR2
    refine hKQ.out _ _ (⟨kR, kR.cell 45⟩) (fun _ => ?_)
    clear hKQ KQ
    try simp only [Act.put]
    refine tj 9 _ ?_
    try simp only [Act.put, ka, kb, kc]
    refine wpAnyH_done (by kernel_rfl) ?_ _
    go_wp2_with fail
    (try simp only [Exit.inBlock, Exit.then])
    refine bodyPost_ret (res2 Tryz.results18 rfl rfl (aggC _) (sizeC _) (ldCv kO2)) rfl ?_
    have hfin : tickF c = ({ c1 with he := 0, wa := 0 }, [] ++ allF c1) := by rw [hTk.out.1 hro, hwv.out, if_pos h10.out, hpz.out, if_pos hev]; rfl
    rw [hfin]
    have hR3 := hR2
    have HZ := HC.low (B := w.heap.size) (Nat.le_trans hlw.out hlg.out) (fun k h => by cases h) HB0.out.size
    exact ⟨_, _, _, _, rfl, hR2.rd, hR2.cap, RdMs.of_run hR2, pO.below _ _ (HB0.out.trans HZ) hwO.out⟩
  ·
   have hb10 : (wv == 10) = false := by simp [h10]
   go_upto_region 10 with (first | refine lo_Cj kC ?_ | refine lo_cLj kC ?_ | refine lo_cJj kC ?_ | refine lo_Cj kO ?_ | refine lo_cLj kO ?_ | refine lo_cJj kO ?_ | refine lo_rLj kR ?_ | refine lo_rCj kR ?_)
   refine wp_region_held_drew (S := fun wq => Blk 99 wq g (rnC c1 (.slice A42 n42 p42) v42) ∧ wq.cell? ⟨g, 45, none⟩ = some v42) (by kernel_rfl) ?s_tckCa (fun hHeld => ?_)
   case s_tckCa => exact ⟨kR, kR.cell 45⟩
   have hD := (Below.refl y42.heap.size y42).drew
   replace HC := HC.trans HN (Ch.of_below g _ hD)
   replace kC := kC.b hD
   replace kO := kO.b hD
   replace kR := kR.b hD
   replace hR := hR.below hD
   clear hD
   generalize y42.drew = y43 at *
   iterate 3 (refine tx 0 _ ?_; try simp only [Act.put, ka, kb, kc])
   refine tj 3 _ ?_ (hy := fun wq hSw => rld_rC rfl rfl (And.left hSw))
   try simp only [Act.put, ka, kb, kc]
   iterate 4 (refine tx 4 _ ?_; try simp only [Act.put, ka, kb, kc])
   refine rr [8] ?_
   refine rc (fun KQ hKQ => ?_) AllReadyH.nil
   refine step_stAt rfl 33 _ _ rfl (cells := (crC c1 (.slice A42 n42 p42)).toArray) (crC c1 (.slice A42 n42 p42)) rfl rfl kO sizeCv (by show 0 + 45 ≤ 45; omega) (cr_one _) rfl ?_
   intro yz kO2 pO
   have kR2 := kR.put pO (Ne.symm akO.1)
   have hR2 := hR.far pO (by rw [HN.2]; exact hzO.out)
   clear kO kR
   have kR := kR2
   clear kR2
   refine hKQ.out _ _ (⟨kR, kR.cell 45⟩) (fun _ => ?_)
   clear hKQ KQ
   try simp only [Act.put]
   refine tj 9 _ ?_
   try simp only [Act.put, ka, kb, kc]
   refine wpAnyH_done (by kernel_rfl) ?_ _
   go_wp2_with fail
   (try simp only [Exit.inBlock, Exit.then])
   refine bodyPost_ret (res2 Tryz.results18 rfl rfl (aggC _) (sizeC _) (ldCv kO2)) rfl ?_
   have hfin : tickF c = (c1, [] ++ allF c1) := by rw [hTk.out.1 hro, hwv.out, if_neg h10, if_pos hev]; rfl
   rw [hfin]
   have hR3 := hR2
   have HZ := HC.low (B := w.heap.size) (Nat.le_trans hlw.out hlg.out) (fun k h => by cases h) HB0.out.size
   exact ⟨_, _, _, _, rfl, hR2.rd, hR2.cap, RdMs.of_run hR2, pO.below _ _ (HB0.out.trans HZ) hwO.out⟩
 ·
  have hbe : (wv % 2 == 0) = false := by simp [hev]
  have cwa : y41.cell? ⟨g, 5, none⟩ = some (Value.int .i64 wv) := by rw [← hwv.out]; exact kR.cell 5
  by_cases h10 : wv = 10
  · exact absurd h10 (by omega)
  ·
   have hb10 : (wv == 10) = false := by simp [h10]
   go_upto_region 10 with (first | refine lo_Cj kC ?_ | refine lo_cLj kC ?_ | refine lo_cJj kC ?_ | refine lo_Cj kO ?_ | refine lo_cLj kO ?_ | refine lo_cJj kO ?_ | refine lo_rLj kR ?_ | refine lo_rCj kR ?_)
   refine wp_region_held_drew (S := fun wq => Blk 99 wq g (rnC c1 (.slice A0 n0 p0) v0) ∧ wq.cell? ⟨g, 45, none⟩ = some v0) (by kernel_rfl) ?s_tckCb (fun hHeld => ?_)
   case s_tckCb => exact ⟨kR, kR.cell 45⟩
   have hD := (Below.refl y41.heap.size y41).drew
   replace HC := HC.trans HN (Ch.of_below g _ hD)
   replace kC := kC.b hD
   replace kO := kO.b hD
   replace kR := kR.b hD
   replace hR := hR.below hD
   clear hD
   generalize y41.drew = y42 at *
   iterate 3 (refine tx 0 _ ?_; try simp only [Act.put, ka, kb, kc])
   refine tj 3 _ ?_ (hy := fun wq hSw => rld_rC rfl rfl (And.left hSw))
   try simp only [Act.put, ka, kb, kc]
   iterate 4 (refine tx 4 _ ?_; try simp only [Act.put, ka, kb, kc])
   refine rr [8] ?_
   refine rc (fun KQ hKQ => ?_) AllReadyH.nil
   refine step_stAt rfl 33 _ _ rfl (cells := (crC c1 (.slice A0 n0 p0)).toArray) (crC c1 (.slice A0 n0 p0)) rfl rfl kO sizeCv (by show 0 + 45 ≤ 45; omega) (cr_one _) rfl ?_
   intro yz kO2 pO
   have kR2 := kR.put pO (Ne.symm akO.1)
   have hR2 := hR.far pO (by rw [HN.2]; exact hzO.out)
   clear kO kR
   have kR := kR2
   clear kR2
   refine hKQ.out _ _ (⟨kR, kR.cell 45⟩) (fun _ => ?_)
   clear hKQ KQ
   try simp only [Act.put]
   refine tj 9 _ ?_
   try simp only [Act.put, ka, kb, kc]
   refine wpAnyH_done (by kernel_rfl) ?_ _
   go_wp2_with fail
   (try simp only [Exit.inBlock, Exit.then])
   refine bodyPost_ret (res2 Tryz.results18 rfl rfl (aggC _) (sizeC _) (ldCv kO2)) rfl ?_
   have hfin : tickF c = (c1, []) := by rw [hTk.out.1 hro, hwv.out, if_neg h10, if_neg hev]
   rw [hfin]
   have hR3 := hR2
   have HZ := HC.low (B := w.heap.size) (Nat.le_trans hlw.out hlg.out) (fun k h => by cases h) HB0.out.size
   exact ⟨_, _, _, _, rfl, hR2.rd, hR2.cap, RdMs.of_run hR2, pO.below _ _ (HB0.out.trans HZ) hwO.out⟩
end Go.Proofs.YtegnfkbmlalkeaaGreat.ref13
