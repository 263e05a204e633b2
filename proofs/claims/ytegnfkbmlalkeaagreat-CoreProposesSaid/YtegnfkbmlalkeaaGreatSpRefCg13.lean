/- The document's change. Conditions: those that the theorem names. -/
import Derived.Deep.RegionHeld3
import Derived.Deep.Cut
import Derived.Lib.Hide
import Derived.Test.YtegnfkbmlalkeaaGreatSpKitCl
import Derived.Test.YtegnfkbmlalkeaaGreatSpCorCh13
import Derived.Test.YtegnfkbmlalkeaaGreatSpRefHc12
import Derived.Test.YtegnfkbmlalkeaaGreatSpRefE12
import Derived.Test.YtegnfkbmlalkeaaGreatSpRef10e
import Derived.Test.YtegnfkbmlalkeaaGreatSpRef9
import Derived.Test.YtegnfkbmlalkeaaGreatSpJ0
import Derived.Test.YtegnfkbmlalkeaaGreatSpKitLg
set_option linter.unusedVariables false
set_option maxHeartbeats 16000000
set_option maxRecDepth 10000
namespace Go.Proofs.YtegnfkbmlalkeaaGreat.ref13
open Go Go.RowKit kit nums cf lg cr se
theorem rlag_hit {c : CoL} {j : JtL} {tz : CfL} {k : Nat} {n : Int} (h : (listF tz.v)[k]? = some n) (h1 : hasF j.a.v n = false) (hn : mtF c n < c.cm) : lagB c j tz = true := List.any_eq_true.2 ⟨n, List.mem_of_getElem? h, by rw [h1, decide_eq_true hn]; rfl⟩
theorem rlag_miss {c : CoL} {j : JtL} {tz : CfL} {N : Nat} (hN : (listF tz.v).length = N) (h : ∀ (k : Nat) (n : Int), k < N → (listF tz.v)[k]? = some n → (!hasF j.a.v n && decide (mtF c n < c.cm)) = false) : lagB c j tz = false := List.any_eq_false.2 (fun n hn => by
 obtain ⟨k, hk⟩ := List.getElem?_of_mem hn
 rw [h k n (by have := (List.getElem?_eq_some_iff.1 hk).1; omega) hk]; decide)
theorem rchange_any (c : CoL) (A : Option Addr) (n p : Nat) (tz : CfL) (w : World) (B : Nat) (hR : RdE w B A n c.lg.es) (hB : B ≤ w.heap.size) (hp : n ≤ p) (hf : Fit c.lg) (hj : (conC c).ok) (hjm : mayJ (conC c) = true) (ht : tz.ok) : Calls Tryz.prog 92 #[crV c (.slice A n p), cfV tz] w fun e w' => e = .returned (.tuple #[jV (cor.chJ c tz), .int .i64 (chE c tz)]) ∧ Below w.heap.size w w' := by
 have HF := Lh hf
 have HJ := Lh hj
 have HJM := Lh hjm
 have HT := Lh ht
 have hS := Lh (fun h => cor.ch_state (c := c) (tz := tz) h)
 have hR0 := Lh (fun h h2 => cor.ch_err (c := c) (tz := tz) h h2)
 have hL := Lh (fun h h2 h3 => cor.ch_lag (c := c) (tz := tz) h h2 h3)
 have hO := Lh (fun h h2 h3 => cor.ch_ok (c := c) (tz := tz) h h2 h3)
 obtain ⟨cm, hcm⟩ : ∃ q, c.cm = q := ⟨_, rfl⟩
 obtain ⟨tm, htm⟩ : ∃ q, c.tm = q := ⟨_, rfl⟩
 obtain ⟨tv, htv⟩ : ∃ q, (termF c.lg c.cm).1 = q := ⟨_, rfl⟩
 obtain ⟨tb, htb⟩ : ∃ q, (termF c.lg c.cm).2 = q := ⟨_, rfl⟩
 obtain ⟨av, hav⟩ : ∃ q, cnoF c.lg = q := ⟨_, rfl⟩
 have hava : atC c.lg = av := hav
 obtain ⟨j, hjj⟩ : ∃ q, conC c = q := ⟨_, rfl⟩
 rw [htv, htm, hava, hcm] at hS hR0 hL hO
 rw [hjj] at hR0 hL hO HJ HJM
 rw [hcm] at htv htb
 obtain ⟨ev, hev⟩ : ∃ q, changeE j tz = q := ⟨_, rfl⟩
 obtain ⟨jv, hjv⟩ : ∃ q, changeJ j tz = q := ⟨_, rfl⟩
 rw [hev] at hR0 hL hO
 rw [hjv] at hO
 have hHit := Lh (fun (k : Nat) (n : Int) h h1 h2 => rlag_hit (c := c) (j := j) (tz := tz) (k := k) (n := n) h h1 h2)
 have hMiss := Lh (fun (N : Nat) hN h => rlag_miss (c := c) (j := j) (tz := tz) (N := N) hN h)
 have HLs := Lh (fun z (hz : z ∈ listF tz.v) => ref9.list_node hz)
 have hl9 := ref9.list_len tz.v
 obtain ⟨l, hl⟩ : ∃ q, listF tz.v = q := ⟨_, rfl⟩
 rw [hl] at hHit hMiss HLs hl9
 obtain ⟨N, hN⟩ : ∃ q, l.length = q := ⟨_, rfl⟩
 rw [hN] at hl9
 obtain ⟨lg, hlg⟩ : ∃ q, lagB c j tz = q := ⟨_, rfl⟩
 rw [hlg] at hHit hMiss hL hO
 clear hf hj hjm ht hava
 replace hcm := Lh hcm
 replace htm := Lh htm
 replace htv := Lh htv
 replace htb := Lh htb
 replace hav := Lh hav
 replace hjj := Lh hjj
 replace hev := Lh hev
 replace hjv := Lh hjv
 replace hl := Lh hl
 replace hN := Lh hN
 replace hlg := Lh hlg
 have R0 := hR.more hB
 clear hR hB
 go_enter Tryz.func92, Tryz.ntmps92
 go_wp2_with (first | go_skip | refine box_C rfl _ rfl c (.slice A n p) rfl ?_ | fail)
 intro y1 kC e1 s1
 clear s1
 have HB := e1
 replace R0 := R0.on e1 e1.size
 clear e1
 go_wp2_with (first | go_skip | refine box_F rfl _ rfl tz rfl ?_ | (first | refine lo_Cj kC ?_ | refine lo_cLj kC ?_ | refine lo_cJj kC ?_))
 intro y2 kT e2 s2
 clear s2
 replace HB := bt HB e2
 replace kC := kC.b e2
 replace R0 := R0.on e2 e2.size
 clear e2
 generalize y1.heap.size = gkT at *
 have LTkCkO := Lh kC.lt
 have LTkTkO := Lh kT.lt
 have NIR0kO := Lh (NotIn.of_rd R0 (Nat.le_refl _))
 have LEkO : Hid (w.heap.size ≤ y2.heap.size) := HB.size
 go_wp2_with (first | go_skip | refine al_J rfl rfl ?_ | (first | refine lo_Cj kC ?_ | refine lo_cLj kC ?_ | refine lo_cJj kC ?_ | refine lo_Fj kT ?_))
 intro y3 kO e3 s3
 clear s3
 replace kO : Blk _ _ _ (jC zeroJ) := kO
 replace HB := bt HB e3
 replace kC := kC.b e3
 replace kT := kT.b e3
 replace R0 := R0.on e3 e3.size
 clear e3
 generalize y2.heap.size = gkO at *
 have ccm : y3.cell? ⟨w.heap.size, 6, none⟩ = some (.int .i64 cm) := by rw [← hcm.out]; exact kC.cell 6
 go_wp2_with (first | go_skip | refine lo_Cj kC ?_ | refine lo_cLj kC ?_ | refine lo_cJj kC ?_ | refine lo_Fj kT ?_ | refine lo_Jj kO ?_)
 have CC := ref12.rterm_any c.lg A n p cm y3 y3.heap.size R0 (Nat.le_refl _) hp HF.out
 rw [htv.out, htb.out] at CC
 refine (CC).mono ?_
 rintro e y4 ⟨rfl, hY⟩
 replace HB := bt HB hY
 replace kC := kC.b hY
 replace kT := kT.b hY
 replace kO := kO.b hY
 replace R0 := R0.on hY hY.size
 clear hY
 clear CC ccm
 go_wp2_with (first | go_skip | refine lo_Cj kC ?_ | refine lo_cLj kC ?_ | refine lo_cJj kC ?_ | refine lo_Fj kT ?_ | refine lo_Jj kO ?_)
 have CC := ref12.rconfat2_any c.lg A n p y4 y4.heap.size R0 (Nat.le_refl _) hp HF.out
 rw [show confF c.lg.j c.lg.es = j from hjj.out, hav.out] at CC
 refine (CC).mono ?_
 rintro e y5 ⟨rfl, hY⟩
 replace HB := bt HB hY
 replace kC := kC.b hY
 replace kT := kT.b hY
 replace kO := kO.b hY
 replace R0 := R0.on hY hY.size
 clear hY
 clear CC
 have LTkCkN := Lh kC.lt
 have LTkTkN := Lh kT.lt
 have LTkOkN := Lh kO.lt
 have NIR0kN := Lh (NotIn.of_rd R0 (Nat.le_refl _))
 have LEkN : Hid (w.heap.size ≤ y5.heap.size) := HB.size
 go_wp2_with (first | go_skip | refine al_J rfl rfl ?_ | (first | refine lo_Cj kC ?_ | refine lo_cLj kC ?_ | refine lo_cJj kC ?_ | refine lo_Fj kT ?_ | refine lo_Jj kO ?_))
 intro y6 kN e6 s6
 clear s6
 replace kN : Blk _ _ _ (jC zeroJ) := kN
 replace HB := bt HB e6
 replace kC := kC.b e6
 replace kT := kT.b e6
 replace kO := kO.b e6
 replace R0 := R0.on e6 e6.size
 clear e6
 generalize y5.heap.size = gkN at *
 go_wp2_with (first | go_skip | refine st_Jv rfl _ _ rfl j rfl rfl _ kN rfl ?_ | (first | refine lo_Cj kC ?_ | refine lo_cLj kC ?_ | refine lo_cJj kC ?_ | refine lo_Fj kT ?_ | refine lo_Jj kO ?_ | refine lo_Jj kN ?_))
 intro y7 kN2 pO
 replace kC := kC.put pO (Nat.ne_of_lt LTkCkN.out)
 replace kT := kT.put pO (Nat.ne_of_lt LTkTkN.out)
 replace kO := kO.put pO (Nat.ne_of_lt LTkOkN.out)
 replace R0 := R0.putS pO NIR0kN.out
 replace HB := pO.below _ _ HB LEkN.out
 clear kN
 have kN := kN2
 clear kN2 pO
 have ccm : y7.cell? ⟨w.heap.size, 6, none⟩ = some (.int .i64 cm) := by rw [← hcm.out]; exact kC.cell 6
 have ctm : y7.cell? ⟨w.heap.size, 2, none⟩ = some (.int .i64 tm) := by rw [← htm.out]; exact kC.cell 2
 by_cases h1 : tv = tm
 rotate_left
 ·
  have b1 : (tv != tm) = true := by simp [h1]
  have hE := Lh (hS.out (.inl h1))
  replace h1 := Lh h1
  go_upto_region 4 with (go_skip)
  clear ccm ctm
  go_wp2_with (first | go_skip | refine st_Jv rfl _ _ rfl zeroJ rfl rfl _ kO rfl ?_ | (first | refine lo_Cj kC ?_ | refine lo_cLj kC ?_ | refine lo_cJj kC ?_ | refine lo_Fj kT ?_ | refine lo_Jj kO ?_ | refine lo_Jj kN ?_ | refine bd_j0 rfl rfl ?_))
  intro y8 kO2 pO
  replace kC := kC.put pO (Nat.ne_of_lt LTkCkO.out)
  replace kT := kT.put pO (Nat.ne_of_lt LTkTkO.out)
  replace kN := kN.put pO (Nat.ne_of_gt LTkOkN.out)
  replace R0 := R0.putS pO NIR0kO.out
  replace HB := pO.below _ _ HB LEkO.out
  clear kO
  have kO := kO2
  clear kO2 pO
  go_wp2_with (first | go_skip | refine lo_Cj kC ?_ | refine lo_cLj kC ?_ | refine lo_cJj kC ?_ | refine lo_Fj kT ?_ | refine lo_Jj kO ?_ | refine lo_Jj kN ?_)
  (try simp only [Exit.inBlock, Exit.then])
  refine bodyPost_ret (res2 Tryz.results92 rfl rfl (aggJ _) (sizeJ _) (ldJv kO)) rfl ?_
  rw [hE.out.1, hE.out.2]
  exact ⟨rfl, HB⟩
 have b1 : (tv != tm) = false := by simp [h1]
 by_cases h2 : av > cm
 ·
  have hE := Lh (hS.out (.inr (by omega)))
  replace h1 := Lh h1
  go_upto_region 4 with (go_skip)
  clear ccm ctm h2
  go_wp2_with (first | go_skip | refine st_Jv rfl _ _ rfl zeroJ rfl rfl _ kO rfl ?_ | (first | refine lo_Cj kC ?_ | refine lo_cLj kC ?_ | refine lo_cJj kC ?_ | refine lo_Fj kT ?_ | refine lo_Jj kO ?_ | refine lo_Jj kN ?_ | refine bd_j0 rfl rfl ?_))
  intro y8 kO2 pO
  replace kC := kC.put pO (Nat.ne_of_lt LTkCkO.out)
  replace kT := kT.put pO (Nat.ne_of_lt LTkTkO.out)
  replace kN := kN.put pO (Nat.ne_of_gt LTkOkN.out)
  replace R0 := R0.putS pO NIR0kO.out
  replace HB := pO.below _ _ HB LEkO.out
  clear kO
  have kO := kO2
  clear kO2 pO
  go_wp2_with (first | go_skip | refine lo_Cj kC ?_ | refine lo_cLj kC ?_ | refine lo_cJj kC ?_ | refine lo_Fj kT ?_ | refine lo_Jj kO ?_ | refine lo_Jj kN ?_)
  (try simp only [Exit.inBlock, Exit.then])
  refine bodyPost_ret (res2 Tryz.results92 rfl rfl (aggJ _) (sizeJ _) (ldJv kO)) rfl ?_
  rw [hE.out.1, hE.out.2]
  exact ⟨rfl, HB⟩
 have hns : Hid (¬ (tv ≠ tm ∨ cm < av)) := fun h => h.elim (fun e => e h1) (fun e => by omega)
 replace h1 := Lh h1
 go_upto_region 5 with (go_skip)
 clear ccm ctm h2
 go_wp2_with (first | go_skip | refine lo_Cj kC ?_ | refine lo_cLj kC ?_ | refine lo_cJj kC ?_ | refine lo_Fj kT ?_ | refine lo_Jj kO ?_ | refine lo_Jj kN ?_)
 have CC := ref10.change_any j tz y7 HJ.out HT.out HJM.out
 rw [hev.out, hjv.out] at CC
 refine (CC).mono ?_
 rintro e y8 ⟨rfl, hY⟩
 replace HB := bt HB hY
 replace kC := kC.b hY
 replace kT := kT.b hY
 replace kO := kO.b hY
 replace kN := kN.b hY
 replace R0 := R0.on hY hY.size
 clear hY
 clear CC
 have LTkCkR := Lh kC.lt
 have LTkTkR := Lh kT.lt
 have LTkOkR := Lh kO.lt
 have LTkNkR := Lh kN.lt
 have NIR0kR := Lh (NotIn.of_rd R0 (Nat.le_refl _))
 have LEkR : Hid (w.heap.size ≤ y8.heap.size) := HB.size
 go_wp2_with (first | go_skip | refine al_J rfl rfl ?_ | (first | refine lo_Cj kC ?_ | refine lo_cLj kC ?_ | refine lo_cJj kC ?_ | refine lo_Fj kT ?_ | refine lo_Jj kO ?_ | refine lo_Jj kN ?_))
 intro y9 kR e9 s9
 clear s9
 replace kR : Blk _ _ _ (jC zeroJ) := kR
 replace HB := bt HB e9
 replace kC := kC.b e9
 replace kT := kT.b e9
 replace kO := kO.b e9
 replace kN := kN.b e9
 replace R0 := R0.on e9 e9.size
 clear e9
 generalize y8.heap.size = gkR at *
 go_wp2_with (first | go_skip | refine st_Jv rfl _ _ rfl jv rfl rfl _ kR rfl ?_ | (first | refine lo_Cj kC ?_ | refine lo_cLj kC ?_ | refine lo_cJj kC ?_ | refine lo_Fj kT ?_ | refine lo_Jj kO ?_ | refine lo_Jj kN ?_ | refine lo_Jj kR ?_))
 intro y10 kR2 pO
 replace kC := kC.put pO (Nat.ne_of_lt LTkCkR.out)
 replace kT := kT.put pO (Nat.ne_of_lt LTkTkR.out)
 replace kO := kO.put pO (Nat.ne_of_lt LTkOkR.out)
 replace kN := kN.put pO (Nat.ne_of_lt LTkNkR.out)
 replace R0 := R0.putS pO NIR0kR.out
 replace HB := pO.below _ _ HB LEkR.out
 clear kR
 have kR := kR2
 clear kR2 pO
 by_cases h3 : ev = 0
 rotate_left
 ·
  have b3 : (ev != 0) = true := by simp [h3]
  have hE := Lh (hR0.out hns.out h3)
  replace h3 := Lh h3
  go_wp2_with (first | go_skip | refine st_Jv rfl _ _ rfl zeroJ rfl rfl _ kO rfl ?_ | (first | refine lo_Cj kC ?_ | refine lo_cLj kC ?_ | refine lo_cJj kC ?_ | refine lo_Fj kT ?_ | refine lo_Jj kO ?_ | refine lo_Jj kN ?_ | refine lo_Jj kR ?_ | refine bd_j0 rfl rfl ?_))
  intro y11 kO2 pO
  replace kC := kC.put pO (Nat.ne_of_lt LTkCkO.out)
  replace kT := kT.put pO (Nat.ne_of_lt LTkTkO.out)
  replace kN := kN.put pO (Nat.ne_of_gt LTkOkN.out)
  replace kR := kR.put pO (Nat.ne_of_gt LTkOkR.out)
  replace R0 := R0.putS pO NIR0kO.out
  replace HB := pO.below _ _ HB LEkO.out
  clear kO
  have kO := kO2
  clear kO2 pO
  go_wp2_with (first | go_skip | refine lo_Cj kC ?_ | refine lo_cLj kC ?_ | refine lo_cJj kC ?_ | refine lo_Fj kT ?_ | refine lo_Jj kO ?_ | refine lo_Jj kN ?_ | refine lo_Jj kR ?_)
  (try simp only [Exit.inBlock, Exit.then])
  refine bodyPost_ret (res2 Tryz.results92 rfl rfl (aggJ _) (sizeJ _) (ldJv kO)) rfl ?_
  rw [hE.out.1, hE.out.2]
  exact ⟨rfl, HB⟩
 have b3 : (ev != 0) = false := by simp [h3]
 have h3h := Lh h3
 clear h3
 have ctv : y10.cell? ⟨gkT, 0, none⟩ = some (.int .u16 (tz.v : Int)) := kT.cell 0
 go_wp2_with (first | go_skip | refine lo_Cj kC ?_ | refine lo_cLj kC ?_ | refine lo_cJj kC ?_ | refine lo_Fj kT ?_ | refine lo_Jj kO ?_ | refine lo_Jj kN ?_ | refine lo_Jj kR ?_)
 have CC := ref9.list_any tz.v y10 HT.out.1
 unfold ref9.IsIs at CC
 rw [hl.out, hN.out] at CC
 clear ctv
 refine CC.mono ?_
 rintro e2 y11 ⟨A5, c5, rfl, hO5, hY⟩
 clear CC
 replace HB := bt HB hY
 replace kC := kC.b hY
 replace kT := kT.b hY
 replace kO := kO.b hY
 replace kN := kN.b hY
 replace kR := kR.b hY
 replace R0 := R0.on hY hY.size
 clear hY
 obtain ⟨A6, c6, e6, h7, -, R5⟩ := hO5.slice
 rw [ref9.i64s_length, hN.out] at e6 h7 R5
 injection e6 with e6 _ e7
 subst e6
 subst e7
 clear hO5
 have BY := Lh R5
 clear R5 h7
 have BkC := Lh kC
 clear kC
 have BkT := Lh kT
 clear kT
 have BkO := Lh kO
 clear kO
 have BkN := Lh kN
 clear kN
 have BkR := Lh kR
 clear kR
 have BR0 := Lh R0
 clear R0
 have BH := Lh HB
 clear HB
 go_wp2_with go_skip
 go_loopw [13] (fun iv wr => ∃ k : Nat, k ≤ N ∧ iv = .int .i64 (k : Int) ∧ Hid (Below y11.heap.size y11 wr) ∧ Hid (∀ (i : Nat) (n : Int), i < k → l[i]? = some n → (!hasF j.a.v n && decide (mtF c n < c.cm)) = false)) (fun iv _ => N - (intOf iv).toNat)
 case atStart => exact ⟨0, by omega, rfl, Lh (Below.refl _ _), Lh (fun i n h => absurd h (by omega))⟩
 case round =>
  obtain ⟨k, hk, rfl, HY, HG⟩ := hrel
  by_cases hkN : k < N
  ·
   have kC := BkC.out.below HY.out BkC.out.lt
   have kT := BkT.out.below HY.out BkT.out.lt
   have kO := BkO.out.below HY.out BkO.out.lt
   have kN := BkN.out.below HY.out BkN.out.lt
   have kR := BkR.out.below HY.out BkR.out.lt
   have R0 := BR0.out.on HY.out HY.out.size
   have HB := HY.out
   have ck : (k : Int) < (N : Int) := by omega
   have c0k : (0 : Int) ≤ (k : Int) := by omega
   have wk : IntKind.i64.wrap ((k : Int) + 1) = ((k + 1 : Nat) : Int) := by rw [wrap_sm (by omega) (by omega)]; omega
   have hR5 := BY.out.below HB
   obtain ⟨pl, ol, z, hA5, hz, cz⟩ := ref9.rdv_at hR5 k hkN
   subst hA5
   have hz9 := HLs.out z (List.mem_of_getElem? hz)
   obtain ⟨i, rfl⟩ : ∃ i : Nat, z = (i : Int) := ⟨z.toNat, by omega⟩
   have hi9 : Hid (i < 10) := by show _ < _; omega
   have ci1 : (i : Int) < 10 := by omega
   have ci0 : (0 : Int) ≤ (i : Int) := by omega
   replace hz := Lh hz
   clear hR5 hz9 cz
   obtain ⟨mv, hmv⟩ : ∃ q, c.mt i = q := ⟨_, rfl⟩
   replace hmv := Lh hmv
   obtain ⟨hv, hhv⟩ : ∃ q, hasF j.a.v (i : Int) = q := ⟨_, rfl⟩
   replace hhv := Lh hhv
   go_upto_region 12 with (first | go_skip | refine lo_Cj kC ?_ | refine lo_cLj kC ?_ | refine lo_cJj kC ?_ | refine lo_Fj kT ?_ | refine lo_Jj kO ?_ | refine lo_Jj kN ?_ | refine lo_Jj kR ?_)
   rcases hv with _ | _
   rotate_left
   ·
    refine wp_region_held_drew (S := fun wq => wq.cell? ⟨gkN, 0, none⟩ = some (.int .u16 (j.a.v : Int)) ∧ wq.cell? ⟨pl, ol + k, none⟩ = some (.int .i64 (i : Int)) ∧ wq.cell? ⟨w.heap.size, 35 + i, none⟩ = some (.int .i64 mv) ∧ wq.cell? ⟨w.heap.size, 6, none⟩ = some (.int .i64 cm)) (by kernel_rfl) ?s_rcg12a (fun hHeld => ?_)
    case s_rcg12a => exact ⟨kN.cell 0, (by obtain ⟨a1, a2, a3, b1, b2, b3⟩ := ref9.rdv_at (BY.out.below HB) k hkN; injection b1 with b1; injection b1 with b4 b5; subst b4; subst b5; rw [hz.out] at b2; rw [Option.some.inj b2]; exact b3), by rw [← hmv.out]; exact cr_mt kC hi9.out, by rw [← hcm.out]; exact kC.cell 6⟩
    have hD := (Below.refl wr.heap.size wr).drew
    replace HB := bt HB hD
    replace kC := kC.b hD
    replace kT := kT.b hD
    replace kO := kO.b hD
    replace kN := kN.b hD
    replace kR := kR.b hD
    replace R0 := R0.on hD hD.size
    clear hD
    generalize wr.drew = y51 at *
    iterate 7 (refine tx 0 _ ?_; try simp only [Act.put, ka, kb, kc])
    refine rr [7] ?_
    refine rc (fun KQ hKQ => ?_) AllReadyH.nil
    go_simp
    have CC := ref9.has_any j.a.v (i : Int) y51 HJ.out.1.1 (by omega) (by omega)
    rw [hhv.out] at CC
    refine (CC).mono ?_
    rintro e y52 ⟨rfl, hW⟩
    subst hW
    clear CC
    go_wp2_with fail
    refine hKQ.out _ _ (⟨kN.cell 0, (by obtain ⟨a1, a2, a3, b1, b2, b3⟩ := ref9.rdv_at (BY.out.below HB) k hkN; injection b1 with b1; injection b1 with b4 b5; subst b4; subst b5; rw [hz.out] at b2; rw [Option.some.inj b2]; exact b3), by rw [← hmv.out]; exact cr_mt kC hi9.out, by rw [← hcm.out]; exact kC.cell 6⟩) (fun _ => ?_)
    clear hKQ KQ
    try simp only [Act.put, ka, kb, kc]
    iterate 2 (refine tx 8 _ ?_; try simp only [Act.put, ka, kb, kc])
    refine skips [(10, 68), (11, 69), (12, 70), (13, 71), (14, 72), (15, 73), (16, 74), (17, 75), (18, 76), (19, 77)] (fuel := 1) ?_
    simp only [List.foldl_cons, List.foldl_nil, List.setIfInBounds_toArray, List.set_cons_zero, List.set_cons_succ]
    refine tj 20 _ ?_
    try simp only [Act.put, ka, kb, kc]
    refine wpAnyH_done (by kernel_rfl) ?_ _
    go_wp2_with go_skip
    go_roundw
    case rel => exact ⟨k + 1, by omega, rfl, Lh HB, Lh (fun q n hq hn => by
     rcases Nat.lt_succ_iff_lt_or_eq.1 hq with h | rfl
     · exact HG.out q n h hn
     · rw [hz.out] at hn; obtain rfl := Option.some.inj hn; rw [hhv.out]; rfl)⟩
    case measure => simp only [intOf]; omega
   by_cases hlt : mv < cm
   ·
    have hlth := Lh hlt
    clear hlt
    refine wp_region_held_drew (S := fun wq => wq.cell? ⟨gkN, 0, none⟩ = some (.int .u16 (j.a.v : Int)) ∧ wq.cell? ⟨pl, ol + k, none⟩ = some (.int .i64 (i : Int)) ∧ wq.cell? ⟨w.heap.size, 35 + i, none⟩ = some (.int .i64 mv) ∧ wq.cell? ⟨w.heap.size, 6, none⟩ = some (.int .i64 cm)) (by kernel_rfl) ?s_rcg12b (fun hHeld => ?_)
    case s_rcg12b => exact ⟨kN.cell 0, (by obtain ⟨a1, a2, a3, b1, b2, b3⟩ := ref9.rdv_at (BY.out.below HB) k hkN; injection b1 with b1; injection b1 with b4 b5; subst b4; subst b5; rw [hz.out] at b2; rw [Option.some.inj b2]; exact b3), by rw [← hmv.out]; exact cr_mt kC hi9.out, by rw [← hcm.out]; exact kC.cell 6⟩
    have hD := (Below.refl wr.heap.size wr).drew
    replace HB := bt HB hD
    replace kC := kC.b hD
    replace kT := kT.b hD
    replace kO := kO.b hD
    replace kN := kN.b hD
    replace kR := kR.b hD
    replace R0 := R0.on hD hD.size
    clear hD
    generalize wr.drew = y51 at *
    iterate 7 (refine tx 0 _ ?_; try simp only [Act.put, ka, kb, kc])
    refine rr [7] ?_
    refine rc (fun KQ hKQ => ?_) AllReadyH.nil
    go_simp
    have CC := ref9.has_any j.a.v (i : Int) y51 HJ.out.1.1 (by omega) (by omega)
    rw [hhv.out] at CC
    refine (CC).mono ?_
    rintro e y52 ⟨rfl, hW⟩
    subst hW
    clear CC
    go_wp2_with fail
    refine hKQ.out _ _ (⟨kN.cell 0, (by obtain ⟨a1, a2, a3, b1, b2, b3⟩ := ref9.rdv_at (BY.out.below HB) k hkN; injection b1 with b1; injection b1 with b4 b5; subst b4; subst b5; rw [hz.out] at b2; rw [Option.some.inj b2]; exact b3), by rw [← hmv.out]; exact cr_mt kC hi9.out, by rw [← hcm.out]; exact kC.cell 6⟩) (fun _ => ?_)
    clear hKQ KQ
    try simp only [Act.put, ka, kb, kc]
    iterate 11 (refine tx 8 _ ?_; try simp only [Act.put, ka, kb, kc])
    refine tj 19 ((.bool true)) ?_ (hy := fun wq hSw => ref13.rb_lss rfl rfl rfl (decide_eq_true (by have := hlth.out; omega)))
    try simp only [Act.put, ka, kb, kc]
    refine tj 20 _ ?_
    try simp only [Act.put, ka, kb, kc]
    refine wpAnyH_done (by kernel_rfl) ?_ _
    have hlg1 : lg = true := hHit.out k (i : Int) hz.out hhv.out (by show c.mt i < c.cm; rw [hmv.out, hcm.out]; exact hlth.out)
    have hE := Lh (hL.out hns.out h3h.out hlg1)
    clear hlg1
    replace HB := BH.out.trans (HB.mono BH.out.size)
    go_wp2_with (first | go_skip | refine st_Jv rfl _ _ rfl zeroJ rfl rfl _ kO rfl ?_ | (first | refine lo_Cj kC ?_ | refine lo_cLj kC ?_ | refine lo_cJj kC ?_ | refine lo_Fj kT ?_ | refine lo_Jj kO ?_ | refine lo_Jj kN ?_ | refine lo_Jj kR ?_ | refine bd_j0 rfl rfl ?_))
    intro y53 kO2 pO
    replace kC := kC.put pO (Nat.ne_of_lt LTkCkO.out)
    replace kT := kT.put pO (Nat.ne_of_lt LTkTkO.out)
    replace kN := kN.put pO (Nat.ne_of_gt LTkOkN.out)
    replace kR := kR.put pO (Nat.ne_of_gt LTkOkR.out)
    replace R0 := R0.putS pO NIR0kO.out
    replace HB := pO.below _ _ HB LEkO.out
    clear kO
    have kO := kO2
    clear kO2 pO
    go_wp2_with (first | go_skip | refine lo_Cj kC ?_ | refine lo_cLj kC ?_ | refine lo_cJj kC ?_ | refine lo_Fj kT ?_ | refine lo_Jj kO ?_ | refine lo_Jj kN ?_ | refine lo_Jj kR ?_)
    (try simp only [Exit.inBlock, Exit.then])
    refine bodyPost_ret (res2 Tryz.results92 rfl rfl (aggJ _) (sizeJ _) (ldJv kO)) rfl ?_
    rw [hE.out.1, hE.out.2]
    exact ⟨rfl, HB⟩
   ·
    have hlth := Lh hlt
    clear hlt
    refine wp_region_held_drew (S := fun wq => wq.cell? ⟨gkN, 0, none⟩ = some (.int .u16 (j.a.v : Int)) ∧ wq.cell? ⟨pl, ol + k, none⟩ = some (.int .i64 (i : Int)) ∧ wq.cell? ⟨w.heap.size, 35 + i, none⟩ = some (.int .i64 mv) ∧ wq.cell? ⟨w.heap.size, 6, none⟩ = some (.int .i64 cm)) (by kernel_rfl) ?s_rcg12c (fun hHeld => ?_)
    case s_rcg12c => exact ⟨kN.cell 0, (by obtain ⟨a1, a2, a3, b1, b2, b3⟩ := ref9.rdv_at (BY.out.below HB) k hkN; injection b1 with b1; injection b1 with b4 b5; subst b4; subst b5; rw [hz.out] at b2; rw [Option.some.inj b2]; exact b3), by rw [← hmv.out]; exact cr_mt kC hi9.out, by rw [← hcm.out]; exact kC.cell 6⟩
    have hD := (Below.refl wr.heap.size wr).drew
    replace HB := bt HB hD
    replace kC := kC.b hD
    replace kT := kT.b hD
    replace kO := kO.b hD
    replace kN := kN.b hD
    replace kR := kR.b hD
    replace R0 := R0.on hD hD.size
    clear hD
    generalize wr.drew = y51 at *
    iterate 7 (refine tx 0 _ ?_; try simp only [Act.put, ka, kb, kc])
    refine rr [7] ?_
    refine rc (fun KQ hKQ => ?_) AllReadyH.nil
    go_simp
    have CC := ref9.has_any j.a.v (i : Int) y51 HJ.out.1.1 (by omega) (by omega)
    rw [hhv.out] at CC
    refine (CC).mono ?_
    rintro e y52 ⟨rfl, hW⟩
    subst hW
    clear CC
    go_wp2_with fail
    refine hKQ.out _ _ (⟨kN.cell 0, (by obtain ⟨a1, a2, a3, b1, b2, b3⟩ := ref9.rdv_at (BY.out.below HB) k hkN; injection b1 with b1; injection b1 with b4 b5; subst b4; subst b5; rw [hz.out] at b2; rw [Option.some.inj b2]; exact b3), by rw [← hmv.out]; exact cr_mt kC hi9.out, by rw [← hcm.out]; exact kC.cell 6⟩) (fun _ => ?_)
    clear hKQ KQ
    try simp only [Act.put, ka, kb, kc]
    iterate 11 (refine tx 8 _ ?_; try simp only [Act.put, ka, kb, kc])
    refine tj 19 ((.bool false)) ?_ (hy := fun wq hSw => ref13.rb_lss rfl rfl rfl (decide_eq_false (by have := hlth.out; omega)))
    try simp only [Act.put, ka, kb, kc]
    refine tj 20 _ ?_
    try simp only [Act.put, ka, kb, kc]
    refine wpAnyH_done (by kernel_rfl) ?_ _
    go_wp2_with go_skip
    go_roundw
    case rel => exact ⟨k + 1, by omega, rfl, Lh HB, Lh (fun q n hq hn => by
     rcases Nat.lt_succ_iff_lt_or_eq.1 hq with h | rfl
     · exact HG.out q n h hn
     · rw [hz.out] at hn; obtain rfl := Option.some.inj hn; rw [hhv.out]; rw [show mtF c (i : Int) = mv from hmv.out, hcm.out, decide_eq_false (by have := hlth.out; omega)]; rfl)⟩
    case measure => simp only [intOf]; omega
  ·
   have kC := BkC.out.below HY.out BkC.out.lt
   have kT := BkT.out.below HY.out BkT.out.lt
   have kO := BkO.out.below HY.out BkO.out.lt
   have kN := BkN.out.below HY.out BkN.out.lt
   have kR := BkR.out.below HY.out BkR.out.lt
   have R0 := BR0.out.on HY.out HY.out.size
   have HB := HY.out
   obtain rfl : k = N := by omega
   have ck : ¬ ((k : Int) < (k : Int)) := by omega
   have hlg1 : lg = false := hMiss.out k hN.out HG.out
   have hE := Lh (hO.out hns.out h3h.out hlg1)
   clear hlg1
   replace HB := BH.out.trans (HB.mono BH.out.size)
   go_wp2_with (first | go_skip | refine st_Jv rfl _ _ rfl jv rfl rfl _ kO rfl ?_ | (first | refine lo_Cj kC ?_ | refine lo_cLj kC ?_ | refine lo_cJj kC ?_ | refine lo_Fj kT ?_ | refine lo_Jj kO ?_ | refine lo_Jj kN ?_ | refine lo_Jj kR ?_))
   intro y101 kO2 pO
   replace kC := kC.put pO (Nat.ne_of_lt LTkCkO.out)
   replace kT := kT.put pO (Nat.ne_of_lt LTkTkO.out)
   replace kN := kN.put pO (Nat.ne_of_gt LTkOkN.out)
   replace kR := kR.put pO (Nat.ne_of_gt LTkOkR.out)
   replace R0 := R0.putS pO NIR0kO.out
   replace HB := pO.below _ _ HB LEkO.out
   clear kO
   have kO := kO2
   clear kO2 pO
   go_wp2_with (first | go_skip | refine lo_Cj kC ?_ | refine lo_cLj kC ?_ | refine lo_cJj kC ?_ | refine lo_Fj kT ?_ | refine lo_Jj kO ?_ | refine lo_Jj kN ?_ | refine lo_Jj kR ?_)
   (try simp only [Exit.inBlock, Exit.then])
   refine bodyPost_ret (res2 Tryz.results92 rfl rfl (aggJ _) (sizeJ _) (ldJv kO)) rfl ?_
   rw [hE.out.1, hE.out.2]
   exact ⟨rfl, HB⟩
end Go.Proofs.YtegnfkbmlalkeaaGreat.ref13
