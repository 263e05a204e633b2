/- The landed core: change. Conditions: those that the theorem names. -/
import Derived.Deep.RegionHeld3
import Derived.Deep.Cut
import Derived.Lib.Hide
import Derived.Test.YtegnfkbmlalkeaaGreatSpKitCl
import Derived.Test.YtegnfkbmlalkeaaGreatSpJ4
import Derived.Test.YtegnfkbmlalkeaaGreatSpJ5
import Derived.Test.YtegnfkbmlalkeaaGreatSpConfK
import Derived.Test.YtegnfkbmlalkeaaGreatSpEntD
import Derived.Test.YtegnfkbmlalkeaaGreatSpJ0
import Derived.Test.YtegnfkbmlalkeaaGreatSpKitLg
set_option linter.unusedVariables false
set_option maxHeartbeats 16000000
set_option maxRecDepth 10000
namespace Go.Proofs.YtegnfkbmlalkeaaGreat.cor
open Go Go.RowKit kit nums cf lg cr se
def chJ (c : CoL) (tz : CfL) : JtL := if chE c tz = 0 then changeJ (conC c) tz else zeroJ
def addS (a b : Nat) : Nat := a ^^^ (a &&& b)
theorem add_listTo (a b : Nat) : ∀ k, k ≤ 9 → listTo (addS a b) k = (listTo a k).filter (fun n => !hasF b n)
 | 0, _ => rfl
 | k + 1, hk => by
  have ih := add_listTo a b k (by omega)
  have hb : (addS a b).testBit (k + 1) = (a.testBit (k + 1) && !b.testBit (k + 1)) := by
   unfold addS
   rw [Nat.testBit_xor, Nat.testBit_and]
   cases a.testBit (k + 1) <;> cases b.testBit (k + 1) <;> rfl
  show (if (addS a b).testBit (k + 1) then listTo (addS a b) k ++ [((k + 1 : Nat) : Int)] else listTo (addS a b) k) = (if a.testBit (k + 1) then listTo a k ++ [((k + 1 : Nat) : Int)] else listTo a k).filter _
  rw [hb, ih]
  cases ha : a.testBit (k + 1)
  · simp
  ·
   cases hbb : b.testBit (k + 1)
   · rw [if_pos (by rfl), if_pos rfl, List.filter_append, List.filter_cons_of_pos (by rw [hasF_node (by omega) (by omega), hbb]; rfl), List.filter_nil]
   · rw [if_neg (by decide), if_pos rfl, List.filter_append, List.filter_cons_of_neg (by rw [hasF_node (by omega) (by omega), hbb]; decide), List.filter_nil, List.append_nil]
theorem add_list (a b : Nat) : listF (addS a b) = (listF a).filter (fun n => !hasF b n) := add_listTo a b 9 (by omega)
theorem lag_any (c : CoL) (j : JtL) (tz : CfL) : lagB c j tz = (listF (addS tz.v j.a.v)).any (fun n => decide (mtF c n < c.cm)) := by
 unfold lagB; rw [add_list, List.any_filter]
theorem lag_hit {c : CoL} {l : List Int} {k : Nat} {n : Int} (h : l[k]? = some n) (hn : mtF c n < c.cm) : l.any (fun n => decide (mtF c n < c.cm)) = true := List.any_eq_true.2 ⟨n, List.mem_of_getElem? h, decide_eq_true hn⟩
theorem lag_miss {c : CoL} {l : List Int} {N : Nat} (hN : l.length = N) (h : ∀ (k : Nat) (n : Int), k < N → l[k]? = some n → ¬ mtF c n < c.cm) : l.any (fun n => decide (mtF c n < c.cm)) = false := List.any_eq_false.2 (fun n hn => by
 obtain ⟨k, hk⟩ := List.getElem?_of_mem hn
 rw [decide_eq_false (h k n (by have := (List.getElem?_eq_some_iff.1 hk).1; omega) hk)]; decide)
theorem ch_state {c : CoL} {tz : CfL} (h : (termF c.lg c.cm).1 ≠ c.tm ∨ c.cm < atC c.lg) : chE c tz = 10 ∧ chJ c tz = zeroJ := by
 have e : chE c tz = 10 := by unfold chE; rw [if_pos h]
 exact ⟨e, by unfold chJ; rw [e]; rfl⟩
theorem ch_err {c : CoL} {tz : CfL} (h : ¬ ((termF c.lg c.cm).1 ≠ c.tm ∨ c.cm < atC c.lg)) (h2 : changeE (conC c) tz ≠ 0) : chE c tz = changeE (conC c) tz ∧ chJ c tz = zeroJ := by
 have e : chE c tz = changeE (conC c) tz := by unfold chE; rw [if_neg h, if_pos h2]
 exact ⟨e, by unfold chJ; rw [e, if_neg h2]⟩
theorem ch_lag {c : CoL} {tz : CfL} (h : ¬ ((termF c.lg c.cm).1 ≠ c.tm ∨ c.cm < atC c.lg)) (h2 : changeE (conC c) tz = 0) (h3 : lagB c (conC c) tz = true) : chE c tz = 10 ∧ chJ c tz = zeroJ := by
 have e : chE c tz = 10 := by unfold chE; rw [if_neg h, if_neg (by omega), if_pos h3]
 exact ⟨e, by unfold chJ; rw [e]; rfl⟩
theorem ch_ok {c : CoL} {tz : CfL} (h : ¬ ((termF c.lg c.cm).1 ≠ c.tm ∨ c.cm < atC c.lg)) (h2 : changeE (conC c) tz = 0) (h3 : lagB c (conC c) tz = false) : chE c tz = 0 ∧ chJ c tz = changeJ (conC c) tz := by
 have e : chE c tz = 0 := by unfold chE; rw [if_neg h, if_neg (by omega), if_neg (by rw [h3]; decide)]
 exact ⟨e, by unfold chJ; rw [e]; rfl⟩
theorem change_any (c : CoL) (A : Option Addr) (n p : Nat) (tz : CfL) (w : World) (B : Nat) (hR : RdE w B A n c.lg.es) (hB : B ≤ w.heap.size) (hp : n ≤ p) (hf : Fit c.lg) (hj : (conC c).ok) (ht : tz.ok) : Calls Tryz.prog 139 #[crV c (.slice A n p), cfV tz] w fun e w' => e = .returned (.tuple #[jV (chJ c tz), .int .i64 (chE c tz)]) ∧ Below w.heap.size w w' := by
 have HF := Lh hf
 have HJ := Lh hj
 have HT := Lh ht
 have hS := Lh (fun h => ch_state (c := c) (tz := tz) h)
 have hR0 := Lh (fun h h2 => ch_err (c := c) (tz := tz) h h2)
 have hL := Lh (fun h h2 h3 => ch_lag (c := c) (tz := tz) h h2 h3)
 have hO := Lh (fun h h2 h3 => ch_ok (c := c) (tz := tz) h h2 h3)
 obtain ⟨cm, hcm⟩ : ∃ q, c.cm = q := ⟨_, rfl⟩
 obtain ⟨tm, htm⟩ : ∃ q, c.tm = q := ⟨_, rfl⟩
 obtain ⟨tv, htv⟩ : ∃ q, (termF c.lg c.cm).1 = q := ⟨_, rfl⟩
 obtain ⟨tb, htb⟩ : ∃ q, (termF c.lg c.cm).2 = q := ⟨_, rfl⟩
 obtain ⟨av, hav⟩ : ∃ q, cnoF c.lg = q := ⟨_, rfl⟩
 have hava : atC c.lg = av := hav
 obtain ⟨j, hjj⟩ : ∃ q, conC c = q := ⟨_, rfl⟩
 rw [htv, htm, hava, hcm] at hS hR0 hL hO
 rw [hjj] at hR0 hL hO HJ
 rw [hcm] at htv htb
 obtain ⟨ev, hev⟩ : ∃ q, changeE j tz = q := ⟨_, rfl⟩
 obtain ⟨jv, hjv⟩ : ∃ q, changeJ j tz = q := ⟨_, rfl⟩
 rw [hev] at hR0 hL hO
 rw [hjv] at hO
 have hLa := lag_any c j tz
 obtain ⟨sv, hsv⟩ : ∃ q, addS tz.v j.a.v = q := ⟨_, rfl⟩
 have hsl : sv < 65536 := by rw [← hsv]; exact Nat.xor_lt_two_pow (n := 16) ht.1 (Nat.lt_of_le_of_lt Nat.and_le_left ht.1)
 have HA := bits_andNot_u16_nat tz.v j.a.v ht.1 HJ.out.1.1
 rw [show tz.v ^^^ (tz.v &&& j.a.v) = sv from hsv] at HA
 rw [hsv] at hLa
 have HLs := Lh (fun z (hz : z ∈ listF sv) => ref9.list_node hz)
 have hl9 := ref9.list_len sv
 obtain ⟨l, hl⟩ : ∃ q, listF sv = q := ⟨_, rfl⟩
 rw [hl] at hLa HLs hl9
 obtain ⟨N, hN⟩ : ∃ q, l.length = q := ⟨_, rfl⟩
 rw [hN] at hl9
 obtain ⟨lg, hlg⟩ : ∃ q, lagB c j tz = q := ⟨_, rfl⟩
 rw [hlg] at hLa hL hO
 clear hf hj ht hava
 replace hcm := Lh hcm
 replace htm := Lh htm
 replace htv := Lh htv
 replace htb := Lh htb
 replace hav := Lh hav
 replace hjj := Lh hjj
 replace hev := Lh hev
 replace hjv := Lh hjv
 replace hsv := Lh hsv
 replace hLa := Lh hLa
 replace hl := Lh hl
 replace hN := Lh hN
 replace hlg := Lh hlg
 replace hsl := Lh hsl
 have R0 := hR.more hB
 clear hR hB
 go_enter Tryz.func139, Tryz.ntmps139
 go_wp2_with (first | go_skip | refine box_C rfl _ rfl c (.slice A n p) rfl ?_ | fail)
 intro y1 kC e1 s1
 clear s1
 have HB := e1
 replace R0 := R0.on e1 e1.size
 clear e1
 go_wp2_with (first | go_skip | refine box_F rfl _ rfl tz rfl ?_ | (first | refine lo_Cj kC ?_ | refine lo_cLj kC ?_ | refine lo_cJj kC ?_))
 intro y2 kT e2 s2
 clear s2
 replace HB := bt HB e2
 replace kC := kC.b e2
 replace R0 := R0.on e2 e2.size
 clear e2
 generalize y1.heap.size = gkT at *
 have LTkCkO := Lh kC.lt
 have LTkTkO := Lh kT.lt
 have NIR0kO := Lh (NotIn.of_rd R0 (Nat.le_refl _))
 have LEkO : Hid (w.heap.size ≤ y2.heap.size) := HB.size
 go_wp2_with (first | go_skip | refine al_J rfl rfl ?_ | (first | refine lo_Cj kC ?_ | refine lo_cLj kC ?_ | refine lo_cJj kC ?_ | refine lo_Fj kT ?_))
 intro y3 kO e3 s3
 clear s3
 replace kO : Blk _ _ _ (jC zeroJ) := kO
 replace HB := bt HB e3
 replace kC := kC.b e3
 replace kT := kT.b e3
 replace R0 := R0.on e3 e3.size
 clear e3
 generalize y2.heap.size = gkO at *
 have ccm : y3.cell? ⟨w.heap.size, 6, none⟩ = some (.int .i64 cm) := by rw [← hcm.out]; exact kC.cell 6
 go_wp2_with (first | go_skip | refine lo_Cj kC ?_ | refine lo_cLj kC ?_ | refine lo_cJj kC ?_ | refine lo_Fj kT ?_ | refine lo_Jj kO ?_)
 have CC := enti.term_any c.lg A n p cm y3 y3.heap.size R0 (Nat.le_refl _) hp HF.out
 rw [htv.out, htb.out] at CC
 refine (CC).mono ?_
 rintro e y4 ⟨rfl, hY⟩
 replace HB := bt HB hY
 replace kC := kC.b hY
 replace kT := kT.b hY
 replace kO := kO.b hY
 replace R0 := R0.on hY hY.size
 clear hY
 clear CC ccm
 go_upto_region 2 with (first | go_skip | refine lo_Cj kC ?_ | refine lo_cLj kC ?_ | refine lo_cJj kC ?_ | refine lo_Fj kT ?_ | refine lo_Jj kO ?_)
 by_cases h1 : tv = tm
 rotate_left
 ·
  have b1 : (tv != tm) = true := by simp [h1]
  have hE := Lh (hS.out (.inl h1))
  replace h1 := Lh h1
  refine wp_region_held_drew (S := fun wq => At wq w.heap.size 8 (lgC c.lg (.slice A n p)) ∧ wq.cell? ⟨w.heap.size, 2, none⟩ = some (.int .i64 tm) ∧ wq.cell? ⟨w.heap.size, 6, none⟩ = some (.int .i64 cm)) (by kernel_rfl) ?s_chg2a (fun hHeld => ?_)
  case s_chg2a => exact ⟨at_cL kC, by rw [← htm.out]; exact kC.cell 2, by rw [← hcm.out]; exact kC.cell 6⟩
  have hD := (Below.refl y4.heap.size y4).drew
  replace HB := bt HB hD
  replace kC := kC.b hD
  replace kT := kT.b hD
  replace kO := kO.b hD
  replace R0 := R0.on hD hD.size
  clear hD
  generalize y4.drew = y5 at *
  iterate 5 (refine tx 0 _ ?_; try simp only [Act.put, ka, kb, kc])
  refine kit.tv 5 ?_
  try simp only [Act.put, ka, kb, kc]
  refine kit.tv 6 ?_
  try simp only [Act.put, ka, kb, kc]
  refine kit.tv 7 ?_
  try simp only [Act.put, ka, kb, kc]
  refine kit.tv 8 ?_
  try simp only [Act.put, ka, kb, kc]
  refine kit.tv 9 ?_
  try simp only [Act.put, ka, kb, kc]
  refine kit.tv 10 ?_
  try simp only [Act.put, ka, kb, kc]
  refine tj 11 _ ?_
  try simp only [Act.put, ka, kb, kc]
  refine wpAnyH_done (by kernel_rfl) ?_ _
  go_wp2_with (first | go_skip | refine st_Jv rfl _ _ rfl zeroJ rfl rfl _ kO rfl ?_ | (first | refine lo_Cj kC ?_ | refine lo_cLj kC ?_ | refine lo_cJj kC ?_ | refine lo_Fj kT ?_ | refine lo_Jj kO ?_ | refine bd_j0 rfl rfl ?_))
  intro y6 kO2 pO
  replace kC := kC.put pO (Nat.ne_of_lt LTkCkO.out)
  replace kT := kT.put pO (Nat.ne_of_lt LTkTkO.out)
  replace R0 := R0.putS pO NIR0kO.out
  replace HB := pO.below _ _ HB LEkO.out
  clear kO
  have kO := kO2
  clear kO2 pO
  go_wp2_with (first | go_skip | refine lo_Cj kC ?_ | refine lo_cLj kC ?_ | refine lo_cJj kC ?_ | refine lo_Fj kT ?_ | refine lo_Jj kO ?_)
  (try simp only [Exit.inBlock, Exit.then])
  refine bodyPost_ret (res2 Tryz.results139 rfl rfl (aggJ _) (sizeJ _) (ldJv kO)) rfl ?_
  rw [hE.out.1, hE.out.2]
  exact ⟨rfl, HB⟩
 have b1 : (tv != tm) = false := by simp [h1]
 by_cases h2 : av > cm
 ·
  have hE := Lh (hS.out (.inr (by omega)))
  have h2h := Lh h2
  replace h1 := Lh h1
  clear h2
  refine wp_region_held_drew (S := fun wq => At wq w.heap.size 8 (lgC c.lg (.slice A n p)) ∧ wq.cell? ⟨w.heap.size, 2, none⟩ = some (.int .i64 tm) ∧ wq.cell? ⟨w.heap.size, 6, none⟩ = some (.int .i64 cm)) (by kernel_rfl) ?s_chg2b (fun hHeld => ?_)
  case s_chg2b => exact ⟨at_cL kC, by rw [← htm.out]; exact kC.cell 2, by rw [← hcm.out]; exact kC.cell 6⟩
  have hD := (Below.refl y4.heap.size y4).drew
  replace HB := bt HB hD
  replace kC := kC.b hD
  replace kT := kT.b hD
  replace kO := kO.b hD
  replace R0 := R0.on hD hD.size
  clear hD
  generalize y4.drew = y5 at *
  iterate 6 (refine tx 0 _ ?_; try simp only [Act.put, ka, kb, kc])
  refine tj 6 ((lgV c.lg (.slice A n p))) ?_ (hy := fun wq hSw => run_ldAt rfl rfl hSw.1 (aggL _) (sizeL _))
  try simp only [Act.put, ka, kb, kc]
  iterate 2 (refine tx 8 _ ?_; try simp only [Act.put, ka, kb, kc])
  refine rr [7] ?_
  refine rc (fun KQ hKQ => ?_) AllReadyH.nil
  go_simp
  have CC := confAt_any c.lg A n p y5 y5.heap.size R0 (Nat.le_refl _) HF.out
  rw [hav.out] at CC
  refine (CC).mono ?_
  rintro e y6 ⟨rfl, hY⟩
  replace HB := bt HB hY
  replace kC := kC.b hY
  replace kT := kT.b hY
  replace kO := kO.b hY
  replace R0 := R0.on hY hY.size
  clear hY
  clear CC
  go_wp2_with fail
  refine hKQ.out _ _ (⟨at_cL kC, by rw [← htm.out]; exact kC.cell 2, by rw [← hcm.out]; exact kC.cell 6⟩) (fun _ => ?_)
  clear hKQ KQ
  try simp only [Act.put, ka, kb, kc]
  refine tj 10 ((.bool true)) ?_ (hy := fun wq hSw => rb_gtr rfl rfl rfl (decide_eq_true (by have := h2h.out; omega)))
  try simp only [Act.put, ka, kb, kc]
  refine tj 11 _ ?_
  try simp only [Act.put, ka, kb, kc]
  refine wpAnyH_done (by kernel_rfl) ?_ _
  go_wp2_with (first | go_skip | refine st_Jv rfl _ _ rfl zeroJ rfl rfl _ kO rfl ?_ | (first | refine lo_Cj kC ?_ | refine lo_cLj kC ?_ | refine lo_cJj kC ?_ | refine lo_Fj kT ?_ | refine lo_Jj kO ?_ | refine bd_j0 rfl rfl ?_))
  intro y7 kO2 pO
  replace kC := kC.put pO (Nat.ne_of_lt LTkCkO.out)
  replace kT := kT.put pO (Nat.ne_of_lt LTkTkO.out)
  replace R0 := R0.putS pO NIR0kO.out
  replace HB := pO.below _ _ HB LEkO.out
  clear kO
  have kO := kO2
  clear kO2 pO
  go_wp2_with (first | go_skip | refine lo_Cj kC ?_ | refine lo_cLj kC ?_ | refine lo_cJj kC ?_ | refine lo_Fj kT ?_ | refine lo_Jj kO ?_)
  (try simp only [Exit.inBlock, Exit.then])
  refine bodyPost_ret (res2 Tryz.results139 rfl rfl (aggJ _) (sizeJ _) (ldJv kO)) rfl ?_
  rw [hE.out.1, hE.out.2]
  exact ⟨rfl, HB⟩
 have hns : Hid (¬ (tv ≠ tm ∨ cm < av)) := fun h => h.elim (fun e => e h1) (fun e => by omega)
 have h2h := Lh h2
 replace h1 := Lh h1
 clear h2
 refine wp_region_held_drew (S := fun wq => At wq w.heap.size 8 (lgC c.lg (.slice A n p)) ∧ wq.cell? ⟨w.heap.size, 2, none⟩ = some (.int .i64 tm) ∧ wq.cell? ⟨w.heap.size, 6, none⟩ = some (.int .i64 cm)) (by kernel_rfl) ?s_chg2c (fun hHeld => ?_)
 case s_chg2c => exact ⟨at_cL kC, by rw [← htm.out]; exact kC.cell 2, by rw [← hcm.out]; exact kC.cell 6⟩
 have hD := (Below.refl y4.heap.size y4).drew
 replace HB := bt HB hD
 replace kC := kC.b hD
 replace kT := kT.b hD
 replace kO := kO.b hD
 replace R0 := R0.on hD hD.size
 clear hD
 generalize y4.drew = y5 at *
 iterate 6 (refine tx 0 _ ?_; try simp only [Act.put, ka, kb, kc])
 refine tj 6 ((lgV c.lg (.slice A n p))) ?_ (hy := fun wq hSw => run_ldAt rfl rfl hSw.1 (aggL _) (sizeL _))
 try simp only [Act.put, ka, kb, kc]
 iterate 2 (refine tx 8 _ ?_; try simp only [Act.put, ka, kb, kc])
 refine rr [7] ?_
 refine rc (fun KQ hKQ => ?_) AllReadyH.nil
 go_simp
 have CC := confAt_any c.lg A n p y5 y5.heap.size R0 (Nat.le_refl _) HF.out
 rw [hav.out] at CC
 refine (CC).mono ?_
 rintro e y6 ⟨rfl, hY⟩
 replace HB := bt HB hY
 replace kC := kC.b hY
 replace kT := kT.b hY
 replace kO := kO.b hY
 replace R0 := R0.on hY hY.size
 clear hY
 clear CC
 go_wp2_with fail
 refine hKQ.out _ _ (⟨at_cL kC, by rw [← htm.out]; exact kC.cell 2, by rw [← hcm.out]; exact kC.cell 6⟩) (fun _ => ?_)
 clear hKQ KQ
 try simp only [Act.put, ka, kb, kc]
 refine tj 10 ((.bool false)) ?_ (hy := fun wq hSw => rb_gtr rfl rfl rfl (decide_eq_false (by have := h2h.out; omega)))
 try simp only [Act.put, ka, kb, kc]
 refine tj 11 _ ?_
 try simp only [Act.put, ka, kb, kc]
 refine wpAnyH_done (by kernel_rfl) ?_ _
 go_wp2_with (first | go_skip | refine lo_Cj kC ?_ | refine lo_cLj kC ?_ | refine lo_cJj kC ?_ | refine lo_Fj kT ?_ | refine lo_Jj kO ?_)
 have CC := enti.conf_any c.lg A n p y6 y6.heap.size R0 (Nat.le_refl _) hp HF.out
 rw [show confF c.lg.j c.lg.es = j from hjj.out] at CC
 refine (CC).mono ?_
 rintro e y7 ⟨rfl, hY⟩
 replace HB := bt HB hY
 replace kC := kC.b hY
 replace kT := kT.b hY
 replace kO := kO.b hY
 replace R0 := R0.on hY hY.size
 clear hY
 clear CC
 have LTkCkN := Lh kC.lt
 have LTkTkN := Lh kT.lt
 have LTkOkN := Lh kO.lt
 have NIR0kN := Lh (NotIn.of_rd R0 (Nat.le_refl _))
 have LEkN : Hid (w.heap.size ≤ y7.heap.size) := HB.size
 go_wp2_with (first | go_skip | refine al_J rfl rfl ?_ | (first | refine lo_Cj kC ?_ | refine lo_cLj kC ?_ | refine lo_cJj kC ?_ | refine lo_Fj kT ?_ | refine lo_Jj kO ?_))
 intro y8 kN e8 s8
 clear s8
 replace kN : Blk _ _ _ (jC zeroJ) := kN
 replace HB := bt HB e8
 replace kC := kC.b e8
 replace kT := kT.b e8
 replace kO := kO.b e8
 replace R0 := R0.on e8 e8.size
 clear e8
 generalize y7.heap.size = gkN at *
 go_wp2_with (first | go_skip | refine st_Jv rfl _ _ rfl j rfl rfl _ kN rfl ?_ | (first | refine lo_Cj kC ?_ | refine lo_cLj kC ?_ | refine lo_cJj kC ?_ | refine lo_Fj kT ?_ | refine lo_Jj kO ?_ | refine lo_Jj kN ?_))
 intro y9 kN2 pO
 replace kC := kC.put pO (Nat.ne_of_lt LTkCkN.out)
 replace kT := kT.put pO (Nat.ne_of_lt LTkTkN.out)
 replace kO := kO.put pO (Nat.ne_of_lt LTkOkN.out)
 replace R0 := R0.putS pO NIR0kN.out
 replace HB := pO.below _ _ HB LEkN.out
 clear kN
 have kN := kN2
 clear kN2 pO
 go_wp2_with (first | go_skip | refine lo_Cj kC ?_ | refine lo_cLj kC ?_ | refine lo_cJj kC ?_ | refine lo_Fj kT ?_ | refine lo_Jj kO ?_ | refine lo_Jj kN ?_)
 have CC := confi.change_any j tz y9 HJ.out HT.out
 rw [hev.out, hjv.out] at CC
 refine (CC).mono ?_
 rintro e y10 ⟨rfl, hY⟩
 replace HB := bt HB hY
 replace kC := kC.b hY
 replace kT := kT.b hY
 replace kO := kO.b hY
 replace kN := kN.b hY
 replace R0 := R0.on hY hY.size
 clear hY
 clear CC
 have LTkCkR := Lh kC.lt
 have LTkTkR := Lh kT.lt
 have LTkOkR := Lh kO.lt
 have LTkNkR := Lh kN.lt
 have NIR0kR := Lh (NotIn.of_rd R0 (Nat.le_refl _))
 have LEkR : Hid (w.heap.size ≤ y10.heap.size) := HB.size
 go_wp2_with (first | go_skip | refine al_J rfl rfl ?_ | (first | refine lo_Cj kC ?_ | refine lo_cLj kC ?_ | refine lo_cJj kC ?_ | refine lo_Fj kT ?_ | refine lo_Jj kO ?_ | refine lo_Jj kN ?_))
 intro y11 kR e11 s11
 clear s11
 replace kR : Blk _ _ _ (jC zeroJ) := kR
 replace HB := bt HB e11
 replace kC := kC.b e11
 replace kT := kT.b e11
 replace kO := kO.b e11
 replace kN := kN.b e11
 replace R0 := R0.on e11 e11.size
 clear e11
 generalize y10.heap.size = gkR at *
 go_wp2_with (first | go_skip | refine st_Jv rfl _ _ rfl jv rfl rfl _ kR rfl ?_ | (first | refine lo_Cj kC ?_ | refine lo_cLj kC ?_ | refine lo_cJj kC ?_ | refine lo_Fj kT ?_ | refine lo_Jj kO ?_ | refine lo_Jj kN ?_ | refine lo_Jj kR ?_))
 intro y12 kR2 pO
 replace kC := kC.put pO (Nat.ne_of_lt LTkCkR.out)
 replace kT := kT.put pO (Nat.ne_of_lt LTkTkR.out)
 replace kO := kO.put pO (Nat.ne_of_lt LTkOkR.out)
 replace kN := kN.put pO (Nat.ne_of_lt LTkNkR.out)
 replace R0 := R0.putS pO NIR0kR.out
 replace HB := pO.below _ _ HB LEkR.out
 clear kR
 have kR := kR2
 clear kR2 pO
 by_cases h3 : ev = 0
 rotate_left
 ·
  have b3 : (ev != 0) = true := by simp [h3]
  have hE := Lh (hR0.out hns.out h3)
  replace h3 := Lh h3
  go_wp2_with (first | go_skip | refine st_Jv rfl _ _ rfl zeroJ rfl rfl _ kO rfl ?_ | (first | refine lo_Cj kC ?_ | refine lo_cLj kC ?_ | refine lo_cJj kC ?_ | refine lo_Fj kT ?_ | refine lo_Jj kO ?_ | refine lo_Jj kN ?_ | refine lo_Jj kR ?_ | refine bd_j0 rfl rfl ?_))
  intro y13 kO2 pO
  replace kC := kC.put pO (Nat.ne_of_lt LTkCkO.out)
  replace kT := kT.put pO (Nat.ne_of_lt LTkTkO.out)
  replace kN := kN.put pO (Nat.ne_of_gt LTkOkN.out)
  replace kR := kR.put pO (Nat.ne_of_gt LTkOkR.out)
  replace R0 := R0.putS pO NIR0kO.out
  replace HB := pO.below _ _ HB LEkO.out
  clear kO
  have kO := kO2
  clear kO2 pO
  go_wp2_with (first | go_skip | refine lo_Cj kC ?_ | refine lo_cLj kC ?_ | refine lo_cJj kC ?_ | refine lo_Fj kT ?_ | refine lo_Jj kO ?_ | refine lo_Jj kN ?_ | refine lo_Jj kR ?_)
  (try simp only [Exit.inBlock, Exit.then])
  refine bodyPost_ret (res2 Tryz.results139 rfl rfl (aggJ _) (sizeJ _) (ldJv kO)) rfl ?_
  rw [hE.out.1, hE.out.2]
  exact ⟨rfl, HB⟩
 have b3 : (ev != 0) = false := by simp [h3]
 have h3h := Lh h3
 clear h3
 have ctv : y12.cell? ⟨gkT, 0, none⟩ = some (.int .u16 (tz.v : Int)) := kT.cell 0
 have cjv : y12.cell? ⟨gkN, 0, none⟩ = some (.int .u16 (j.a.v : Int)) := kN.cell 0
 go_wp2_with (first | go_skip | refine lo_Cj kC ?_ | refine lo_cLj kC ?_ | refine lo_cJj kC ?_ | refine lo_Fj kT ?_ | refine lo_Jj kO ?_ | refine lo_Jj kN ?_ | refine lo_Jj kR ?_)
 have CC := seti.list_any sv y12 hsl.out
 unfold ref9.IsIs at CC
 rw [hl.out, hN.out] at CC
 clear ctv cjv
 refine CC.mono ?_
 rintro e2 y13 ⟨A5, c5, rfl, hO5, hY⟩
 clear CC
 replace HB := bt HB hY
 replace kC := kC.b hY
 replace kT := kT.b hY
 replace kO := kO.b hY
 replace kN := kN.b hY
 replace kR := kR.b hY
 replace R0 := R0.on hY hY.size
 clear hY
 obtain ⟨A6, c6, e6, h7, -, R5⟩ := hO5.slice
 rw [ref9.i64s_length, hN.out] at e6 h7 R5
 injection e6 with e6 _ e7
 subst e6
 subst e7
 clear hO5
 have BY := Lh R5
 clear R5 h7
 have BkC := Lh kC
 clear kC
 have BkT := Lh kT
 clear kT
 have BkO := Lh kO
 clear kO
 have BkN := Lh kN
 clear kN
 have BkR := Lh kR
 clear kR
 have BR0 := Lh R0
 clear R0
 have BH := Lh HB
 clear HB
 go_wp2_with go_skip
 go_loopw [55] (fun iv wr => ∃ k : Nat, k ≤ N ∧ iv = .int .i64 (k : Int) ∧ Hid (Below y13.heap.size y13 wr) ∧ Hid (∀ (i : Nat) (n : Int), i < k → l[i]? = some n → ¬ mtF c n < c.cm)) (fun iv _ => N - (intOf iv).toNat)
 case atStart => exact ⟨0, by omega, rfl, Lh (Below.refl _ _), Lh (fun i n h => absurd h (by omega))⟩
 case round =>
  obtain ⟨k, hk, rfl, HY, HG⟩ := hrel
  by_cases hkN : k < N
  ·
   have kC := BkC.out.below HY.out BkC.out.lt
   have kT := BkT.out.below HY.out BkT.out.lt
   have kO := BkO.out.below HY.out BkO.out.lt
   have kN := BkN.out.below HY.out BkN.out.lt
   have kR := BkR.out.below HY.out BkR.out.lt
   have R0 := BR0.out.on HY.out HY.out.size
   have HB := HY.out
   have ck : (k : Int) < (N : Int) := by omega
   have c0k : (0 : Int) ≤ (k : Int) := by omega
   have wk : IntKind.i64.wrap ((k : Int) + 1) = ((k + 1 : Nat) : Int) := by rw [wrap_sm (by omega) (by omega)]; omega
   have hR5 := BY.out.below HY.out
   obtain ⟨pl, ol, z, hA5, hz, cz⟩ := ref9.rdv_at hR5 k hkN
   subst hA5
   have hz9 := HLs.out z (List.mem_of_getElem? hz)
   obtain ⟨i, rfl⟩ : ∃ i : Nat, z = (i : Int) := ⟨z.toNat, by omega⟩
   have hi9 : Hid (i < 10) := by show _ < _; omega
   have ci1 : (i : Int) < 10 := by omega
   have ci0 : (0 : Int) ≤ (i : Int) := by omega
   replace hz := Lh hz
   clear hR5 hz9
   obtain ⟨mv, hmv⟩ : ∃ q, c.mt i = q := ⟨_, rfl⟩
   replace hmv := Lh hmv
   go_upto_region 11 with (first | go_skip | refine lo_Cj kC ?_ | refine lo_cLj kC ?_ | refine lo_cJj kC ?_ | refine lo_Fj kT ?_ | refine lo_Jj kO ?_ | refine lo_Jj kN ?_ | refine lo_Jj kR ?_)
   clear cz
   by_cases hlt : mv < cm
   ·
    have hlth := Lh hlt
    clear hlt
    refine wp_region_held_drew (S := fun wq => wq.cell? ⟨w.heap.size, 35 + i, none⟩ = some (.int .i64 mv) ∧ wq.cell? ⟨w.heap.size, 6, none⟩ = some (.int .i64 cm)) (by kernel_rfl) ?s_chg11a (fun hHeld => ?_)
    case s_chg11a => exact ⟨by rw [← hmv.out]; exact cr_mt kC hi9.out, by rw [← hcm.out]; exact kC.cell 6⟩
    have hD := (Below.refl wr.heap.size wr).drew
    replace HB := bt HB hD
    replace kC := kC.b hD
    replace kT := kT.b hD
    replace kO := kO.b hD
    replace kN := kN.b hD
    replace kR := kR.b hD
    replace R0 := R0.on hD hD.size
    clear hD
    generalize wr.drew = y51 at *
    iterate 6 (refine tx 0 _ ?_; try simp only [Act.put, ka, kb, kc])
    refine tj 6 ((.bool true)) ?_ (hy := fun wq hSw => ref13.rb_lss rfl rfl rfl (decide_eq_true (by have := hlth.out; omega)))
    try simp only [Act.put, ka, kb, kc]
    refine wpAnyH_done (by kernel_rfl) ?_ _
    have hlg1 : lg = true := by rw [hLa.out]; exact lag_hit hz.out (by show c.mt i < c.cm; rw [hmv.out, hcm.out]; exact hlth.out)
    have hE := Lh (hL.out hns.out h3h.out hlg1)
    clear hlg1
    replace HB := BH.out.trans (HB.mono BH.out.size)
    go_wp2_with (first | go_skip | refine st_Jv rfl _ _ rfl zeroJ rfl rfl _ kO rfl ?_ | (first | refine lo_Cj kC ?_ | refine lo_cLj kC ?_ | refine lo_cJj kC ?_ | refine lo_Fj kT ?_ | refine lo_Jj kO ?_ | refine lo_Jj kN ?_ | refine lo_Jj kR ?_ | refine bd_j0 rfl rfl ?_))
    intro y52 kO2 pO
    replace kC := kC.put pO (Nat.ne_of_lt LTkCkO.out)
    replace kT := kT.put pO (Nat.ne_of_lt LTkTkO.out)
    replace kN := kN.put pO (Nat.ne_of_gt LTkOkN.out)
    replace kR := kR.put pO (Nat.ne_of_gt LTkOkR.out)
    replace R0 := R0.putS pO NIR0kO.out
    replace HB := pO.below _ _ HB LEkO.out
    clear kO
    have kO := kO2
    clear kO2 pO
    go_wp2_with (first | go_skip | refine lo_Cj kC ?_ | refine lo_cLj kC ?_ | refine lo_cJj kC ?_ | refine lo_Fj kT ?_ | refine lo_Jj kO ?_ | refine lo_Jj kN ?_ | refine lo_Jj kR ?_)
    (try simp only [Exit.inBlock, Exit.then])
    refine bodyPost_ret (res2 Tryz.results139 rfl rfl (aggJ _) (sizeJ _) (ldJv kO)) rfl ?_
    rw [hE.out.1, hE.out.2]
    exact ⟨rfl, HB⟩
   ·
    have hlth := Lh hlt
    clear hlt
    refine wp_region_held_drew (S := fun wq => wq.cell? ⟨w.heap.size, 35 + i, none⟩ = some (.int .i64 mv) ∧ wq.cell? ⟨w.heap.size, 6, none⟩ = some (.int .i64 cm)) (by kernel_rfl) ?s_chg11b (fun hHeld => ?_)
    case s_chg11b => exact ⟨by rw [← hmv.out]; exact cr_mt kC hi9.out, by rw [← hcm.out]; exact kC.cell 6⟩
    have hD := (Below.refl wr.heap.size wr).drew
    replace HB := bt HB hD
    replace kC := kC.b hD
    replace kT := kT.b hD
    replace kO := kO.b hD
    replace kN := kN.b hD
    replace kR := kR.b hD
    replace R0 := R0.on hD hD.size
    clear hD
    generalize wr.drew = y51 at *
    iterate 6 (refine tx 0 _ ?_; try simp only [Act.put, ka, kb, kc])
    refine tj 6 ((.bool false)) ?_ (hy := fun wq hSw => ref13.rb_lss rfl rfl rfl (decide_eq_false (by have := hlth.out; omega)))
    try simp only [Act.put, ka, kb, kc]
    refine wpAnyH_done (by kernel_rfl) ?_ _
    go_wp2_with go_skip
    go_roundw
    case rel => exact ⟨k + 1, by omega, rfl, Lh HB, Lh (fun q n hq hn => by
     rcases Nat.lt_succ_iff_lt_or_eq.1 hq with h | rfl
     · exact HG.out q n h hn
     · rw [hz.out] at hn; obtain rfl := Option.some.inj hn; show ¬ c.mt i < c.cm; rw [hmv.out, hcm.out]; exact hlth.out)⟩
    case measure => simp only [intOf]; omega
  ·
   have kC := BkC.out.below HY.out BkC.out.lt
   have kT := BkT.out.below HY.out BkT.out.lt
   have kO := BkO.out.below HY.out BkO.out.lt
   have kN := BkN.out.below HY.out BkN.out.lt
   have kR := BkR.out.below HY.out BkR.out.lt
   have R0 := BR0.out.on HY.out HY.out.size
   have HB := HY.out
   obtain rfl : k = N := by omega
   have ck : ¬ ((k : Int) < (k : Int)) := by omega
   have hlg1 : lg = false := by rw [hLa.out]; exact lag_miss hN.out HG.out
   have hE := Lh (hO.out hns.out h3h.out hlg1)
   clear hlg1
   replace HB := BH.out.trans (HB.mono BH.out.size)
   go_wp2_with (first | go_skip | refine st_Jv rfl _ _ rfl jv rfl rfl _ kO rfl ?_ | (first | refine lo_Cj kC ?_ | refine lo_cLj kC ?_ | refine lo_cJj kC ?_ | refine lo_Fj kT ?_ | refine lo_Jj kO ?_ | refine lo_Jj kN ?_ | refine lo_Jj kR ?_))
   intro y101 kO2 pO
   replace kC := kC.put pO (Nat.ne_of_lt LTkCkO.out)
   replace kT := kT.put pO (Nat.ne_of_lt LTkTkO.out)
   replace kN := kN.put pO (Nat.ne_of_gt LTkOkN.out)
   replace kR := kR.put pO (Nat.ne_of_gt LTkOkR.out)
   replace R0 := R0.putS pO NIR0kO.out
   replace HB := pO.below _ _ HB LEkO.out
   clear kO
   have kO := kO2
   clear kO2 pO
   go_wp2_with (first | go_skip | refine lo_Cj kC ?_ | refine lo_cLj kC ?_ | refine lo_cJj kC ?_ | refine lo_Fj kT ?_ | refine lo_Jj kO ?_ | refine lo_Jj kN ?_ | refine lo_Jj kR ?_)
   (try simp only [Exit.inBlock, Exit.then])
   refine bodyPost_ret (res2 Tryz.results139 rfl rfl (aggJ _) (sizeJ _) (ldJv kO)) rfl ?_
   rw [hE.out.1, hE.out.2]
   exact ⟨rfl, HB⟩
end Go.Proofs.YtegnfkbmlalkeaaGreat.cor
