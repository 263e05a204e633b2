/- The document's Propose. Conditions: those that the theorem names. -/
import Derived.Deep.RegionHeld3
import Derived.Deep.Cut
import Derived.Lib.Hide
import Derived.Test.YtegnfkbmlalkeaaGreatSpJ3
import Derived.Test.YtegnfkbmlalkeaaGreatSpJ0
import Derived.Test.YtegnfkbmlalkeaaGreatSpRefCg13
import Derived.Test.YtegnfkbmlalkeaaGreatSpJ5
import Derived.Test.YtegnfkbmlalkeaaGreatSpCorPr13
import Derived.Test.YtegnfkbmlalkeaaGreatSpKitCl
import Derived.Test.YtegnfkbmlalkeaaGreatSpKitLg
set_option linter.unusedVariables false
set_option maxHeartbeats 16000000
set_option maxRecDepth 10000
namespace Go.Proofs.YtegnfkbmlalkeaaGreat.ref13
open Go Go.RowKit kit nums cf lg cr se
theorem Ch_put_new {w w1 w2 : World} {g z : Nat} {o : Rw} (h : Ch g o w w1) (hp : Put w1 w2 z) (hz : w.heap.size ≤ z) (hl : Below z w1 w2) : Ch g o w w2 :=
 ⟨hl.os.trans h.os, hl.tape.trans h.tape, hl.output.trans h.output, by rw [hp.size]; exact h.size, fun k hk h1 h2 => by rw [hp.other k (by omega)]; exact h.block k hk h1 h2⟩
theorem RunR_putF {w w' : World} {g z : Nat} {o : Rw} {A : Option Addr} {n p : Nat} {es : List EnL} {v : Value} (h : RunR w g o A n p es v []) (hp : Put w w' z) (hn : NotIn z A n) (ho : o.row ≠ some z) : RunR w' g o A n p es v [] := by
 obtain ⟨h2, h3, hl, xs, h4, h5, h6, h7⟩ := h
 refine ⟨⟨(h2.1.same (fun b off h0 e => hp.other b (hn b off h0 e))).more (by rw [hp.size]; exact Nat.le_refl _), h2.2⟩, h3, hl, xs, h4.same (fun k hk _ => hp.other k (fun e => ho (by rw [← h5, hk, e]))), h5, h6, fun y hy => ?_⟩
 cases xs with
 | nil => cases hy
 | cons a b => cases h6
theorem rpropose_any (c : CoL) (A : Option Addr) (n p : Nat) (x : EnL) (w : World) (B : Nat) (hR : RdE w B A n c.lg.es) (hB : B ≤ w.heap.size) (hp : n ≤ p) (hk : GoodK c) (ht : x.j.b.ok) (hxj : (cor.prX c x).k = 2 → (cor.prX c x).j.ok ∧ mayJ (cor.prX c x).j = true) : Calls Tryz.prog 30 #[crV c (.slice A n p), enV x] w fun e w' => ∃ A' n' p' v, e = .returned (.tuple #[crV (propF c x).1 (.slice A' n' p'), v, .int .i64 (propF c x).2.2.1, .int .i64 (propF c x).2.2.2]) ∧ RdE w' w'.heap.size A' n' (propF c x).1.lg.es ∧ n' ≤ p' ∧ RdMs w' v (propF c x).2.1 ∧ Below w.heap.size w w' := by
 have HK := Lh hk
 have HF := Lh hk.n.1
 have hlen := Lh hR.len
 have HT := Lh ht
 have hGp := Lh hxj
 have hP0 := Lh (fun h => cor.prop_err (c := c) (e := x) h)
 have hP1 := Lh (fun h => cor.prop_ok (c := c) (e := x) h)
 have e1 := Lh (fun h => cor.pe_lead (c := c) (e := x) h)
 have e2 := Lh (fun h a b => cor.pe_form (c := c) (e := x) h a b)
 have e3 := Lh (fun h a b => cor.pe_full (c := c) (e := x) h a b)
 have e4 := Lh (fun h a b => cor.pe_cmd (c := c) (e := x) h a b)
 have e5 := Lh (fun h a b => cor.pe_conf (c := c) (e := x) h a b)
 obtain ⟨ro, hro⟩ : ∃ q, c.ro = q := ⟨_, rfl⟩
 obtain ⟨xk, hxk⟩ : ∃ q, x.k = q := ⟨_, rfl⟩
 obtain ⟨xd, hxd⟩ : ∃ q, x.d = q := ⟨_, rfl⟩
 obtain ⟨ce, hce⟩ : ∃ q, chE c x.j.b = q := ⟨_, rfl⟩
 obtain ⟨cj, hcj⟩ : ∃ q, cor.chJ c x.j.b = q := ⟨_, rfl⟩
 obtain ⟨X, hX⟩ : ∃ q, cor.prX c x = q := ⟨_, rfl⟩
 obtain ⟨PE, hPE⟩ : ∃ q, propE c x = q := ⟨_, rfl⟩
 rw [hPE] at hP0 hP1 e1 e2 e3 e4 e5
 rw [hX] at hP1 hGp e4 e5
 rw [hro] at e1 e2 e3 e4 e5
 rw [hxk] at e2 e3 e4 e5
 rw [hxd] at e4
 rw [hce] at e5
 rw [hcj] at e5
 clear hk ht hxj
 replace hro := Lh hro
 replace hxk := Lh hxk
 replace hxd := Lh hxd
 replace hce := Lh hce
 replace hcj := Lh hcj
 replace hX := Lh hX
 replace hPE := Lh hPE
 have R0 := hR.more hB
 clear hR hB
 go_enter Tryz.func30, Tryz.ntmps30
 go_wp2_with (first | go_skip | refine box_C rfl _ rfl c (.slice A n p) rfl ?_ | fail)
 intro y1 kC e1 s1
 clear s1
 have HB := e1
 replace R0 := R0.on e1 e1.size
 clear e1
 go_wp2_with (first | go_skip | refine box_E rfl _ rfl x rfl ?_ | (first | refine lo_Cj kC ?_ | refine lo_cLj kC ?_ | refine lo_cJj kC ?_))
 intro y2 kE e2 s2
 clear s2
 replace HB := bt HB e2
 replace kC := kC.b e2
 replace R0 := R0.on e2 e2.size
 clear e2
 generalize y1.heap.size = gkE at *
 have LTkCkO := Lh kC.lt
 have LTkEkO := Lh kE.lt
 have NIR0kO := Lh (NotIn.of_rd R0 (Nat.le_refl _))
 have LEkO : Hid (w.heap.size ≤ y2.heap.size) := HB.size
 go_wp2_with (first | go_skip | refine al_C rfl rfl ?_ | (first | refine lo_Cj kC ?_ | refine lo_cLj kC ?_ | refine lo_cJj kC ?_ | refine lo_Ej kE ?_))
 intro y3 kO e3 s3
 clear s3
 replace kO : Blk _ _ _ (crC zC (.slice none 0 0)) := kO
 replace HB := bt HB e3
 replace kC := kC.b e3
 replace kE := kE.b e3
 replace R0 := R0.on e3 e3.size
 clear e3
 generalize y2.heap.size = gkO at *
 have cro : y3.cell? ⟨w.heap.size, 1, none⟩ = some (.int .i64 ro) := by rw [← hro.out]; exact kC.cell 1
 have cxk : y3.cell? ⟨gkE, 1, none⟩ = some (.int .i64 xk) := by rw [← hxk.out]; exact kE.cell 1
 have cls : y3.cell? ⟨w.heap.size, 21, none⟩ = some (.slice A n p) := kC.cell 21
 by_cases h1 : ro = 2
 rotate_left
 ·
  have b1 : (ro != 2) = true := by simp [h1]
  have hE1 : PE = 27 := e1.out h1
  have hE := hP0.out (by rw [hE1]; decide)
  rw [hE1] at hE
  replace hE := Lh hE
  clear hE1
  go_wp2_with (first | go_skip | refine st_C rfl _ _ rfl zC none 0 0 rfl rfl _ kO rfl ?_ | (first | refine lo_Cj kC ?_ | refine lo_cLj kC ?_ | refine lo_cJj kC ?_ | refine lo_Ej kE ?_ | refine lo_Cj kO ?_ | refine lo_cLj kO ?_ | refine lo_cJj kO ?_ | refine bd_c0 rfl rfl ?_))
  intro y4 kO2 pO
  replace kC := kC.put pO (Nat.ne_of_lt LTkCkO.out)
  replace kE := kE.put pO (Nat.ne_of_lt LTkEkO.out)
  replace R0 := R0.putS pO NIR0kO.out
  replace HB := pO.below _ _ HB LEkO.out
  clear kO
  have kO := kO2
  clear kO2 pO
  try clear cro cxk cls
  go_wp2_with (first | go_skip | refine lo_Cj kC ?_ | refine lo_cLj kC ?_ | refine lo_cJj kC ?_ | refine lo_Ej kE ?_ | refine lo_Cj kO ?_ | refine lo_cLj kO ?_ | refine lo_cJj kO ?_)
  (try simp only [Exit.inBlock, Exit.then])
  refine bodyPost_ret (res4 Tryz.results30 rfl rfl rfl rfl (aggC _) (sizeC _) (ldCv kO)) rfl ?_
  rw [hE.out]
  exact ⟨none, 0, 0, _, rfl, RdE.nil _ _ _, Nat.le_refl _, RdMs.nil _, HB⟩
 have b1 : (ro != 2) = false := by simp [h1]
 have h1h := Lh h1
 clear h1
 by_cases k1 : xk = 1
 ·
  have b2 : (xk != 1) = false := by simp [k1]
  have b3 : (xk == 2) = false := by simp [k1]
  have hkk : Hid (xk = 1 ∨ xk = 2) := Lh (.inl k1)
  have k1h := Lh k1
  clear k1
  by_cases hn4 : (4032 : Int) ≤ (n : Int)
  ·
   have hge : (n : Int) ≥ 4032 := hn4
   have hE1 : PE = 8 := e3.out h1h.out hkk.out (by have := hlen.out; omega)
   have hE := hP0.out (by rw [hE1]; decide)
   rw [hE1] at hE
   replace hE := Lh hE
   clear hE1
   go_wp2_with (first | go_skip | refine st_C rfl _ _ rfl zC none 0 0 rfl rfl _ kO rfl ?_ | (first | refine lo_Cj kC ?_ | refine lo_cLj kC ?_ | refine lo_cJj kC ?_ | refine lo_Ej kE ?_ | refine lo_Cj kO ?_ | refine lo_cLj kO ?_ | refine lo_cJj kO ?_ | refine bd_c0 rfl rfl ?_))
   intro y4 kO2 pO
   replace kC := kC.put pO (Nat.ne_of_lt LTkCkO.out)
   replace kE := kE.put pO (Nat.ne_of_lt LTkEkO.out)
   replace R0 := R0.putS pO NIR0kO.out
   replace HB := pO.below _ _ HB LEkO.out
   clear kO
   have kO := kO2
   clear kO2 pO
   try clear cro cxk cls
   go_wp2_with (first | go_skip | refine lo_Cj kC ?_ | refine lo_cLj kC ?_ | refine lo_cJj kC ?_ | refine lo_Ej kE ?_ | refine lo_Cj kO ?_ | refine lo_cLj kO ?_ | refine lo_cJj kO ?_)
   (try simp only [Exit.inBlock, Exit.then])
   refine bodyPost_ret (res4 Tryz.results30 rfl rfl rfl rfl (aggC _) (sizeC _) (ldCv kO)) rfl ?_
   rw [hE.out]
   exact ⟨none, 0, 0, _, rfl, RdE.nil _ _ _, Nat.le_refl _, RdMs.nil _, HB⟩
  have hge : ¬ (n : Int) ≥ 4032 := hn4
  have hsz : Hid (¬ 4032 ≤ c.lg.es.length) := by show ¬ _; have := hlen.out; omega
  clear hn4
  go_wp2_with (first | go_skip | refine lo_Cj kC ?_ | refine lo_cLj kC ?_ | refine lo_cJj kC ?_ | refine lo_Ej kE ?_ | refine lo_Cj kO ?_ | refine lo_cLj kO ?_ | refine lo_cJj kO ?_)
  clear cro cxk cls
  have CC := begin_any c A n p y3 y3.heap.size R0 (Nat.le_refl _) hp HF.out
  have hzO := Lh kO.lt
  have hzC := Lh kC.lt
  have hzE := Lh kE.lt
  have hlw := Lh HB.size
  refine CC.mono ?_
  rintro e2 yB ⟨g, rfl, hI, hY, hgg⟩
  clear CC
  replace HB := bt HB hY
  replace kC := kC.b hY
  replace kE := kE.b hY
  replace kO := kO.b hY
  replace R0 := R0.on hY hY.size
  clear hY
  generalize hlo : y3.heap.size = lo at *
  clear hlo
  have HB0 := Lh HB
  clear HB
  have hlg := Lh hgg
  have akC : Ap g ⟨none, lo⟩ w.heap.size := ⟨Nat.ne_of_lt (Nat.lt_of_lt_of_le hzC.out hgg), fun h => by cases h⟩
  have akE : Ap g ⟨none, lo⟩ gkE := ⟨Nat.ne_of_lt (Nat.lt_of_lt_of_le hzE.out hgg), fun h => by cases h⟩
  have akO : Ap g ⟨none, lo⟩ gkO := ⟨Nat.ne_of_lt (Nat.lt_of_lt_of_le hzO.out hgg), fun h => by cases h⟩
  clear hgg
  obtain ⟨A0, n0, p0, v0, kR, hR⟩ := hI
  have HC := Ch.refl g ⟨none, lo⟩ yB
  have HN := Nx.refl ⟨none, lo⟩ yB
  have cxk : yB.cell? ⟨gkE, 1, none⟩ = some (.int .i64 xk) := by rw [← hxk.out]; exact kE.cell 1
  have cxd : yB.cell? ⟨gkE, 2, none⟩ = some (.string xd) := by rw [← hxd.out]; exact kE.cell 2
  have hPN : Hid (∀ o w1 w2, Ch g o yB w1 → Put w1 w2 yB.heap.size → Ch g o yB w2) := Lh (fun o w1 w2 q1 q2 => Ch_put_new q1 q2 (Nat.le_refl _) (q2.below _ _ (Below.refl _ _) (Nat.le_refl _)))
  have NIX := Lh (NotIn.of_rd hR.rd (Nat.le_refl _))
  have LTkCkX := Lh kC.lt
  have LTkEkX := Lh kE.lt
  have LTkOkX := Lh kO.lt
  have akX := hR.fresh kR.lt (Nat.le_refl _)
  go_wp2_with (first | go_skip | refine al_E rfl rfl ?_ | (first | refine lo_Cj kC ?_ | refine lo_cLj kC ?_ | refine lo_cJj kC ?_ | refine lo_Ej kE ?_ | refine lo_Cj kO ?_ | refine lo_cLj kO ?_ | refine lo_cJj kO ?_ | refine lo_rLj kR ?_ | refine lo_rCj kR ?_ | refine bd_ecmd xk xd rfl rfl rfl rfl ?_))
  intro x41 zkX e41 s41
  clear s41
  go_wp2_with (refine st_E rfl _ _ rfl { zE with k := xk, d := xd } rfl rfl _ zkX rfl ?_)
  intro y41 kX q41
  have t41 := q41.below _ _ e41 (Nat.le_refl _)
  clear q41 e41 zkX
  replace HC := HC.trans HN (Ch.of_below g _ t41)
  replace kC := kC.b t41
  replace kE := kE.b t41
  replace kO := kO.b t41
  replace kR := kR.b t41
  replace hR := hR.below t41
  replace R0 := R0.on t41 t41.size
  clear t41
  generalize yB.heap.size = gkX at *
  clear cxd cxk
  have cxk : y41.cell? ⟨gkE, 1, none⟩ = some (.int .i64 xk) := by rw [← hxk.out]; exact kE.cell 1
  clear R0
  have hE := e4.out h1h.out k1h.out hsz.out
  have hXe : Hid (X = { zE with k := xk, d := xd }) := by show _ = _; rw [hE.2, ← k1h.out]
  have hPE0 := Lh hE.1
  clear hE
  go_wp2_with (first | go_skip | refine lo_Cj kC ?_ | refine lo_cLj kC ?_ | refine lo_cJj kC ?_ | refine lo_Ej kE ?_ | refine lo_Cj kO ?_ | refine lo_cLj kO ?_ | refine lo_cJj kO ?_ | refine lo_rLj kR ?_ | refine lo_rCj kR ?_ | refine lo_Ej kX ?_)
  clear cxk
  have hXe2 := hXe.out
  refine (push_any g c _ _ ({ zE with k := xk, d := xd }) y41 ⟨_, _, _, _, kR, hR⟩ HF.out (by have := HK.out.n.2.1; omega) ⟨HK.out.n.2.2.1, HK.out.n.2.2.2.1⟩).mono ?_
  rintro e y42 ⟨rfl, o42, ⟨A42, n42, p42, v42, kR2, hR2⟩, hc, hn⟩
  have a2 := akC.next hn kC.lt
  replace kC := kC.ch hc akC
  replace akC := a2
  clear a2
  have a2 := akE.next hn kE.lt
  replace kE := kE.ch hc akE
  replace akE := a2
  clear a2
  have a2 := akO.next hn kO.lt
  replace kO := kO.ch hc akO
  replace akO := a2
  clear a2
  have a2 := akX.next hn kX.lt
  replace kX := kX.ch hc akX
  replace akX := a2
  clear a2
  have HN2 := HN.trans HC.size hn
  replace HC := HC.trans HN hc
  replace HN := HN2
  clear HN2 kR hR hc hn
  have kR := kR2
  have hR := hR2
  clear kR2 hR2
  rw [← hXe2] at kR hR
  clear hXe2
  have hE := Lh (hP1.out hPE0.out)
  obtain ⟨P, hP⟩ : ∃ q, pushC c X = q := ⟨_, rfl⟩
  have hGP : Hid (GoodN P 700001 ∧ P.id = c.id ∧ P.nx = c.nx) := by show _ ∧ _; rw [← hP]; exact ⟨cor.good_push HK.out.n hGp.out, rfl, rfl⟩
  rw [hP] at kR hR hE
  replace hP := Lh hP
  obtain ⟨la, hla⟩ : ∃ q, lastF P.lg = q := ⟨_, rfl⟩
  rw [hla] at hE
  replace hla := Lh hla
  go_wp2_with (first | go_skip | refine lo_Cj kC ?_ | refine lo_cLj kC ?_ | refine lo_cJj kC ?_ | refine lo_Ej kE ?_ | refine lo_Cj kO ?_ | refine lo_cLj kO ?_ | refine lo_cJj kO ?_ | refine lo_rLj kR ?_ | refine lo_rCj kR ?_ | refine lo_Ej kX ?_)
  have CC := ref12.rlast_any P.lg A42 n42 p42 y42 hR.rd.1 hGP.out.1.1
  rw [hla.out] at CC
  refine (CC).mono ?_
  rintro e y43 ⟨rfl, hY⟩
  replace HC := HC.trans HN (Ch.of_below g _ hY)
  replace kC := kC.b hY
  replace kE := kE.b hY
  replace kO := kO.b hY
  replace kR := kR.b hY
  replace kX := kX.b hY
  replace hR := hR.below hY
  clear hY
  clear CC
  go_wp2_with (first | go_skip | refine lo_Cj kC ?_ | refine lo_cLj kC ?_ | refine lo_cJj kC ?_ | refine lo_Ej kE ?_ | refine lo_Cj kO ?_ | refine lo_cLj kO ?_ | refine lo_cJj kO ?_ | refine lo_rLj kR ?_ | refine lo_rCj kR ?_ | refine lo_Ej kX ?_)
  refine (counts_any g P _ _ y43 ⟨_, _, _, _, kR, hR⟩ (good_more hGP.out.1 (by omega))).mono ?_
  rintro e y44 ⟨rfl, o44, ⟨A44, n44, p44, v44, kR2, hR2⟩, hc, hn⟩
  have a2 := akC.next hn kC.lt
  replace kC := kC.ch hc akC
  replace akC := a2
  clear a2
  have a2 := akE.next hn kE.lt
  replace kE := kE.ch hc akE
  replace akE := a2
  clear a2
  have a2 := akO.next hn kO.lt
  replace kO := kO.ch hc akO
  replace akO := a2
  clear a2
  have a2 := akX.next hn kX.lt
  replace kX := kX.ch hc akX
  replace akX := a2
  clear a2
  have HN2 := HN.trans HC.size hn
  replace HC := HC.trans HN hc
  replace HN := HN2
  clear HN2 kR hR hc hn
  have kR := kR2
  have hR := hR2
  clear kR2 hR2
  obtain ⟨D, hD⟩ : ∃ q, couC P = q := ⟨_, rfl⟩
  have hGD : Hid (GoodN D 700002 ∧ D.nx = c.nx) := by show _ ∧ _; rw [← hD]; exact ⟨good_cou hGP.out.1 (by omega), (couC_nx P).trans hGP.out.2.2⟩
  rw [hD] at kR hR hE
  replace hD := Lh hD
  obtain ⟨rd, hrd⟩ : ∃ q, D.ro = q := ⟨_, rfl⟩
  rw [hrd] at hE
  replace hrd := Lh hrd
  have crd : y44.cell? ⟨g, 1, none⟩ = some (.int .i64 rd) := by rw [← hrd.out]; exact kR.cell 1
  by_cases h2 : rd = 2
  ·
   have b2 : (rd == 2) = true := by simp [h2]
   have hE2 := hE.out
   rw [if_pos h2] at hE2
   replace hE2 := Lh hE2
   clear hE
   go_wp2_with (first | go_skip | refine lo_Cj kC ?_ | refine lo_cLj kC ?_ | refine lo_cJj kC ?_ | refine lo_Ej kE ?_ | refine lo_Cj kO ?_ | refine lo_cLj kO ?_ | refine lo_cJj kO ?_ | refine lo_rLj kR ?_ | refine lo_rCj kR ?_ | refine lo_Ej kX ?_)
   clear crd
   refine (all_any g D _ _ y44 ⟨_, _, _, _, kR, hR⟩ hGD.out.1.1 hGD.out.1.2.2.2.2.1 hGD.out.1.2.2.2.2.2.1 (fun q q1 q9 => by rw [show nxF D q = c.nx q.toNat from congrFun hGD.out.2 _]; exact HK.out.nx q.toNat (by omega)) (Nat.zero_le _)).mono ?_
   rintro e y45 ⟨rfl, o45, ⟨A45, n45, p45, v45, kR2, hR2⟩, hc, hn⟩
   have a2 := akC.next hn kC.lt
   replace kC := kC.ch hc akC
   replace akC := a2
   clear a2
   have a2 := akE.next hn kE.lt
   replace kE := kE.ch hc akE
   replace akE := a2
   clear a2
   have a2 := akO.next hn kO.lt
   replace kO := kO.ch hc akO
   replace akO := a2
   clear a2
   have a2 := akX.next hn kX.lt
   replace kX := kX.ch hc akX
   replace akX := a2
   clear a2
   have HN2 := HN.trans HC.size hn
   replace HC := HC.trans HN hc
   replace HN := HN2
   clear HN2 kR hR hc hn
   have kR := kR2
   have hR := hR2
   clear kR2 hR2
   go_upto_region 19 with (first | go_skip | refine lo_Cj kC ?_ | refine lo_cLj kC ?_ | refine lo_cJj kC ?_ | refine lo_Ej kE ?_ | refine lo_Cj kO ?_ | refine lo_cLj kO ?_ | refine lo_cJj kO ?_ | refine lo_rLj kR ?_ | refine lo_rCj kR ?_ | refine lo_Ej kX ?_)
   refine wp_region_held_drew (S := fun wq => Blk 99 wq g (rnC D (.slice A45 n45 p45) v45) ∧ wq.cell? ⟨g, 45, none⟩ = some v45) (by kernel_rfl) ?s_rpp19ac (fun hHeld => ?_)
   case s_rpp19ac => exact ⟨kR, kR.cell 45⟩
   have hD := (Below.refl y45.heap.size y45).drew
   replace HC := HC.trans HN (Ch.of_below g _ hD)
   replace kC := kC.b hD
   replace kE := kE.b hD
   replace kO := kO.b hD
   replace kR := kR.b hD
   replace kX := kX.b hD
   replace hR := hR.below hD
   clear hD
   generalize y45.drew = y46 at *
   iterate 3 (refine tx 0 _ ?_; try simp only [Act.put, ka, kb, kc])
   refine tj 3 _ ?_ (hy := fun wq hSw => rld_rC rfl rfl (And.left hSw))
   try simp only [Act.put, ka, kb, kc]
   iterate 5 (refine tx 4 _ ?_; try simp only [Act.put, ka, kb, kc])
   refine rr [9] ?_
   refine rc (fun KQ hKQ => ?_) AllReadyH.nil
   refine step_stAt rfl 33 _ _ rfl (cells := (crC D (.slice A45 n45 p45)).toArray) (crC D (.slice A45 n45 p45)) rfl rfl kO sizeCv (by show 0 + 45 ≤ 45; omega) (cr_one _) rfl ?_
   intro yz kO2 pO
   have kR2 := kR.put pO (Ne.symm akO.1)
   have hR2 := hR.far pO (by rw [HN.2]; exact hzO.out)
   clear kO kR
   have kR := kR2
   clear kR2
   refine hKQ.out _ _ (⟨kR, kR.cell 45⟩) (fun _ => ?_)
   clear hKQ KQ
   try simp only [Act.put]
   iterate 3 (refine tx 10 _ ?_; try simp only [Act.put, ka, kb, kc])
   refine wpAnyH_done (by kernel_rfl) ?_ _
   go_wp2_with go_skip
   (try simp only [Exit.inBlock, Exit.then])
   refine bodyPost_ret (res4 Tryz.results30 rfl rfl rfl rfl (aggC _) (sizeC _) (ldCv kO2)) rfl ?_
   have hfin : propF c x = (D, [] ++ allF D, la, 0) := by exact hE2.out
   rw [hfin]
   have HZ := HC.low (B := w.heap.size) (Nat.le_trans hlw.out hlg.out) (fun k h => by cases h) HB0.out.size
   exact ⟨_, _, _, _, rfl, hR2.rd, hR2.cap, RdMs.of_run hR2, pO.below _ _ (HB0.out.trans HZ) LEkO.out⟩
  ·
   have b2 : (rd == 2) = false := by simp [h2]
   have hE2 := hE.out
   rw [if_neg h2] at hE2
   replace hE2 := Lh hE2
   clear hE
   go_upto_region 19 with (first | go_skip | refine lo_Cj kC ?_ | refine lo_cLj kC ?_ | refine lo_cJj kC ?_ | refine lo_Ej kE ?_ | refine lo_Cj kO ?_ | refine lo_cLj kO ?_ | refine lo_cJj kO ?_ | refine lo_rLj kR ?_ | refine lo_rCj kR ?_ | refine lo_Ej kX ?_)
   refine wp_region_held_drew (S := fun wq => Blk 99 wq g (rnC D (.slice A44 n44 p44) v44) ∧ wq.cell? ⟨g, 45, none⟩ = some v44) (by kernel_rfl) ?s_rpp19bc (fun hHeld => ?_)
   case s_rpp19bc => exact ⟨kR, kR.cell 45⟩
   have hD := (Below.refl y44.heap.size y44).drew
   replace HC := HC.trans HN (Ch.of_below g _ hD)
   replace kC := kC.b hD
   replace kE := kE.b hD
   replace kO := kO.b hD
   replace kR := kR.b hD
   replace kX := kX.b hD
   replace hR := hR.below hD
   clear hD
   generalize y44.drew = y45 at *
   iterate 3 (refine tx 0 _ ?_; try simp only [Act.put, ka, kb, kc])
   refine tj 3 _ ?_ (hy := fun wq hSw => rld_rC rfl rfl (And.left hSw))
   try simp only [Act.put, ka, kb, kc]
   iterate 5 (refine tx 4 _ ?_; try simp only [Act.put, ka, kb, kc])
   refine rr [9] ?_
   refine rc (fun KQ hKQ => ?_) AllReadyH.nil
   refine step_stAt rfl 33 _ _ rfl (cells := (crC D (.slice A44 n44 p44)).toArray) (crC D (.slice A44 n44 p44)) rfl rfl kO sizeCv (by show 0 + 45 ≤ 45; omega) (cr_one _) rfl ?_
   intro yz kO2 pO
   have kR2 := kR.put pO (Ne.symm akO.1)
   have hR2 := hR.far pO (by rw [HN.2]; exact hzO.out)
   clear kO kR
   have kR := kR2
   clear kR2
   refine hKQ.out _ _ (⟨kR, kR.cell 45⟩) (fun _ => ?_)
   clear hKQ KQ
   try simp only [Act.put]
   iterate 3 (refine tx 10 _ ?_; try simp only [Act.put, ka, kb, kc])
   refine wpAnyH_done (by kernel_rfl) ?_ _
   go_wp2_with go_skip
   (try simp only [Exit.inBlock, Exit.then])
   refine bodyPost_ret (res4 Tryz.results30 rfl rfl rfl rfl (aggC _) (sizeC _) (ldCv kO2)) rfl ?_
   have hfin : propF c x = (D, [], la, 0) := by exact hE2.out
   rw [hfin]
   have HZ := HC.low (B := w.heap.size) (Nat.le_trans hlw.out hlg.out) (fun k h => by cases h) HB0.out.size
   exact ⟨_, _, _, _, rfl, hR2.rd, hR2.cap, RdMs.of_run hR2, pO.below _ _ (HB0.out.trans HZ) LEkO.out⟩
 have b2 : (xk != 1) = true := by simp [k1]
 have k1h := Lh k1
 clear k1
 by_cases k2 : xk = 2
 rotate_left
 ·
  have b4 : (xk != 2) = true := by simp [k2]
  have k2h := Lh k2
  clear k2
  have hE1 : PE = 9 := e2.out h1h.out k1h.out k2h.out
  have hE := hP0.out (by rw [hE1]; decide)
  rw [hE1] at hE
  replace hE := Lh hE
  clear hE1
  go_wp2_with (first | go_skip | refine st_C rfl _ _ rfl zC none 0 0 rfl rfl _ kO rfl ?_ | (first | refine lo_Cj kC ?_ | refine lo_cLj kC ?_ | refine lo_cJj kC ?_ | refine lo_Ej kE ?_ | refine lo_Cj kO ?_ | refine lo_cLj kO ?_ | refine lo_cJj kO ?_ | refine bd_c0 rfl rfl ?_))
  intro y4 kO2 pO
  replace kC := kC.put pO (Nat.ne_of_lt LTkCkO.out)
  replace kE := kE.put pO (Nat.ne_of_lt LTkEkO.out)
  replace R0 := R0.putS pO NIR0kO.out
  replace HB := pO.below _ _ HB LEkO.out
  clear kO
  have kO := kO2
  clear kO2 pO
  try clear cro cxk cls
  go_wp2_with (first | go_skip | refine lo_Cj kC ?_ | refine lo_cLj kC ?_ | refine lo_cJj kC ?_ | refine lo_Ej kE ?_ | refine lo_Cj kO ?_ | refine lo_cLj kO ?_ | refine lo_cJj kO ?_)
  (try simp only [Exit.inBlock, Exit.then])
  refine bodyPost_ret (res4 Tryz.results30 rfl rfl rfl rfl (aggC _) (sizeC _) (ldCv kO)) rfl ?_
  rw [hE.out]
  exact ⟨none, 0, 0, _, rfl, RdE.nil _ _ _, Nat.le_refl _, RdMs.nil _, HB⟩
 have b4 : (xk != 2) = false := by simp [k2]
 have b3 : (xk == 2) = true := by simp [k2]
 have hkk : Hid (xk = 1 ∨ xk = 2) := Lh (.inr k2)
 have k2h := Lh k2
 clear k2
 by_cases hn4 : (4032 : Int) ≤ (n : Int)
 ·
  have hge : (n : Int) ≥ 4032 := hn4
  have hE1 : PE = 8 := e3.out h1h.out hkk.out (by have := hlen.out; omega)
  have hE := hP0.out (by rw [hE1]; decide)
  rw [hE1] at hE
  replace hE := Lh hE
  clear hE1
  go_wp2_with (first | go_skip | refine st_C rfl _ _ rfl zC none 0 0 rfl rfl _ kO rfl ?_ | (first | refine lo_Cj kC ?_ | refine lo_cLj kC ?_ | refine lo_cJj kC ?_ | refine lo_Ej kE ?_ | refine lo_Cj kO ?_ | refine lo_cLj kO ?_ | refine lo_cJj kO ?_ | refine bd_c0 rfl rfl ?_))
  intro y4 kO2 pO
  replace kC := kC.put pO (Nat.ne_of_lt LTkCkO.out)
  replace kE := kE.put pO (Nat.ne_of_lt LTkEkO.out)
  replace R0 := R0.putS pO NIR0kO.out
  replace HB := pO.below _ _ HB LEkO.out
  clear kO
  have kO := kO2
  clear kO2 pO
  try clear cro cxk cls
  go_wp2_with (first | go_skip | refine lo_Cj kC ?_ | refine lo_cLj kC ?_ | refine lo_cJj kC ?_ | refine lo_Ej kE ?_ | refine lo_Cj kO ?_ | refine lo_cLj kO ?_ | refine lo_cJj kO ?_)
  (try simp only [Exit.inBlock, Exit.then])
  refine bodyPost_ret (res4 Tryz.results30 rfl rfl rfl rfl (aggC _) (sizeC _) (ldCv kO)) rfl ?_
  rw [hE.out]
  exact ⟨none, 0, 0, _, rfl, RdE.nil _ _ _, Nat.le_refl _, RdMs.nil _, HB⟩
 have hge : ¬ (n : Int) ≥ 4032 := hn4
 have hsz : Hid (¬ 4032 ≤ c.lg.es.length) := by show ¬ _; have := hlen.out; omega
 clear hn4
 go_wp2_with (first | go_skip | refine lo_Cj kC ?_ | refine lo_cLj kC ?_ | refine lo_cJj kC ?_ | refine lo_Ej kE ?_ | refine lo_Cj kO ?_ | refine lo_cLj kO ?_ | refine lo_cJj kO ?_)
 clear cro cxk cls
 have CC := begin_any c A n p y3 y3.heap.size R0 (Nat.le_refl _) hp HF.out
 have hzO := Lh kO.lt
 have hzC := Lh kC.lt
 have hzE := Lh kE.lt
 have hlw := Lh HB.size
 refine CC.mono ?_
 rintro e2 yB ⟨g, rfl, hI, hY, hgg⟩
 clear CC
 replace HB := bt HB hY
 replace kC := kC.b hY
 replace kE := kE.b hY
 replace kO := kO.b hY
 replace R0 := R0.on hY hY.size
 clear hY
 generalize hlo : y3.heap.size = lo at *
 clear hlo
 have HB0 := Lh HB
 clear HB
 have hlg := Lh hgg
 have akC : Ap g ⟨none, lo⟩ w.heap.size := ⟨Nat.ne_of_lt (Nat.lt_of_lt_of_le hzC.out hgg), fun h => by cases h⟩
 have akE : Ap g ⟨none, lo⟩ gkE := ⟨Nat.ne_of_lt (Nat.lt_of_lt_of_le hzE.out hgg), fun h => by cases h⟩
 have akO : Ap g ⟨none, lo⟩ gkO := ⟨Nat.ne_of_lt (Nat.lt_of_lt_of_le hzO.out hgg), fun h => by cases h⟩
 clear hgg
 obtain ⟨A0, n0, p0, v0, kR, hR⟩ := hI
 have HC := Ch.refl g ⟨none, lo⟩ yB
 have HN := Nx.refl ⟨none, lo⟩ yB
 have cxk : yB.cell? ⟨gkE, 1, none⟩ = some (.int .i64 xk) := by rw [← hxk.out]; exact kE.cell 1
 have cxd : yB.cell? ⟨gkE, 2, none⟩ = some (.string xd) := by rw [← hxd.out]; exact kE.cell 2
 have hPN : Hid (∀ o w1 w2, Ch g o yB w1 → Put w1 w2 yB.heap.size → Ch g o yB w2) := Lh (fun o w1 w2 q1 q2 => Ch_put_new q1 q2 (Nat.le_refl _) (q2.below _ _ (Below.refl _ _) (Nat.le_refl _)))
 have NIX := Lh (NotIn.of_rd hR.rd (Nat.le_refl _))
 have LTkCkX := Lh kC.lt
 have LTkEkX := Lh kE.lt
 have LTkOkX := Lh kO.lt
 have akX := hR.fresh kR.lt (Nat.le_refl _)
 go_wp2_with (first | go_skip | refine al_E rfl rfl ?_ | (first | refine lo_Cj kC ?_ | refine lo_cLj kC ?_ | refine lo_cJj kC ?_ | refine lo_Ej kE ?_ | refine lo_Cj kO ?_ | refine lo_cLj kO ?_ | refine lo_cJj kO ?_ | refine lo_rLj kR ?_ | refine lo_rCj kR ?_ | refine bd_ecmd xk xd rfl rfl rfl rfl ?_))
 intro x41 zkX e41 s41
 clear s41
 go_wp2_with (refine st_E rfl _ _ rfl { zE with k := xk, d := xd } rfl rfl _ zkX rfl ?_)
 intro y41 kX q41
 have t41 := q41.below _ _ e41 (Nat.le_refl _)
 clear q41 e41 zkX
 replace HC := HC.trans HN (Ch.of_below g _ t41)
 replace kC := kC.b t41
 replace kE := kE.b t41
 replace kO := kO.b t41
 replace kR := kR.b t41
 replace hR := hR.below t41
 replace R0 := R0.on t41 t41.size
 clear t41
 generalize yB.heap.size = gkX at *
 clear cxd cxk
 have cxk : y41.cell? ⟨gkE, 1, none⟩ = some (.int .i64 xk) := by rw [← hxk.out]; exact kE.cell 1
 go_wp2_with (first | go_skip | refine lo_Cj kC ?_ | refine lo_cLj kC ?_ | refine lo_cJj kC ?_ | refine lo_Ej kE ?_ | refine lo_Cj kO ?_ | refine lo_cLj kO ?_ | refine lo_cJj kO ?_ | refine lo_rLj kR ?_ | refine lo_rCj kR ?_ | refine lo_Ej kX ?_ | refine lo_eF _ rfl rfl rfl kE ?_)
 clear cxk
 have CC := rchange_any c A n p x.j.b y41 y41.heap.size R0 (Nat.le_refl _) hp HF.out HK.out.n.2.2.2.2.1 HK.out.n.2.2.2.2.2.1 HT.out
 rw [hce.out, hcj.out] at CC
 refine (CC).mono ?_
 rintro e y42 ⟨rfl, hY⟩
 replace HC := HC.trans HN (Ch.of_below g _ hY)
 replace kC := kC.b hY
 replace kE := kE.b hY
 replace kO := kO.b hY
 replace kR := kR.b hY
 replace kX := kX.b hY
 replace hR := hR.below hY
 replace R0 := R0.on hY hY.size
 clear hY
 clear CC R0
 have akJ := hR.fresh kR.lt (Nat.le_refl _)
 go_wp2_with (first | go_skip | refine al_J rfl rfl ?_ | (first | refine lo_Cj kC ?_ | refine lo_cLj kC ?_ | refine lo_cJj kC ?_ | refine lo_Ej kE ?_ | refine lo_Cj kO ?_ | refine lo_cLj kO ?_ | refine lo_cJj kO ?_ | refine lo_rLj kR ?_ | refine lo_rCj kR ?_ | refine lo_Ej kX ?_))
 intro x43 zkJ e43 s43
 clear s43
 go_wp2_with (refine st_Jv rfl _ _ rfl cj rfl rfl _ zkJ rfl ?_)
 intro y43 kJ q43
 have t43 := q43.below _ _ e43 (Nat.le_refl _)
 clear q43 e43 zkJ
 replace HC := HC.trans HN (Ch.of_below g _ t43)
 replace kC := kC.b t43
 replace kE := kE.b t43
 replace kO := kO.b t43
 replace kR := kR.b t43
 replace kX := kX.b t43
 replace hR := hR.below t43
 clear t43
 generalize y42.heap.size = gkJ at *
 have hE := e5.out h1h.out k2h.out hsz.out
 obtain ⟨hE1, hE2⟩ := hE
 by_cases hc0 : ce = 0
 rotate_left
 ·
  have b5 : (ce != 0) = true := by simp [hc0]
  have hE3 := hP0.out (by rw [hE1]; exact hc0)
  rw [hE1] at hE3
  replace hE3 := Lh hE3
  replace hc0 := Lh hc0
  clear hE2 hE1
  go_wp2_with (first | go_skip | refine st_C rfl _ _ rfl zC none 0 0 rfl rfl _ kO rfl ?_ | (first | refine lo_Cj kC ?_ | refine lo_cLj kC ?_ | refine lo_cJj kC ?_ | refine lo_Ej kE ?_ | refine lo_Cj kO ?_ | refine lo_cLj kO ?_ | refine lo_cJj kO ?_ | refine lo_rLj kR ?_ | refine lo_rCj kR ?_ | refine lo_Ej kX ?_ | refine lo_Jj kJ ?_ | refine bd_c0 rfl rfl ?_))
  intro yz kO2 pO
  go_wp2_with go_skip
  (try simp only [Exit.inBlock, Exit.then])
  refine bodyPost_ret (res4 Tryz.results30 rfl rfl rfl rfl (aggC _) (sizeC _) (ldCv kO2)) rfl ?_
  rw [hE3.out]
  have HZ := HC.low (B := w.heap.size) (Nat.le_trans hlw.out hlg.out) (fun k h => by cases h) HB0.out.size
  exact ⟨none, 0, 0, _, rfl, RdE.nil _ _ _, Nat.le_refl _, RdMs.nil _, pO.below _ _ (HB0.out.trans HZ) LEkO.out⟩
 have b5 : (ce != 0) = false := by simp [hc0]
 have hXe : Hid (X = { zE with k := xk, j := cj }) := by show _ = _; rw [hE2 hc0, ← k2h.out]
 have hPE0 := Lh (hE1.trans hc0)
 clear hE1 hE2
 replace hc0 := Lh hc0
 have cxk : y43.cell? ⟨gkE, 1, none⟩ = some (.int .i64 xk) := by rw [← hxk.out]; exact kE.cell 1
 go_wp2_with (first | go_skip | refine st_E rfl _ _ rfl ({ zE with k := xk, j := cj }) rfl rfl _ kX rfl ?_ | (first | refine lo_Cj kC ?_ | refine lo_cLj kC ?_ | refine lo_cJj kC ?_ | refine lo_Ej kE ?_ | refine lo_Cj kO ?_ | refine lo_cLj kO ?_ | refine lo_cJj kO ?_ | refine lo_rLj kR ?_ | refine lo_rCj kR ?_ | refine lo_Ej kX ?_ | refine lo_Jj kJ ?_ | refine bd_econ xk cj rfl rfl rfl rfl ?_))
 intro yS kX2 pO
 clear kX cxk kJ akJ
 have kX := kX2
 clear kX2
 replace kC := kC.put pO (Nat.ne_of_lt LTkCkX.out)
 replace kE := kE.put pO (Nat.ne_of_lt LTkEkX.out)
 replace kO := kO.put pO (Nat.ne_of_lt LTkOkX.out)
 replace kR := kR.put pO (Ne.symm akX.1)
 replace hR := RunR_putF hR pO NIX.out akX.2
 replace HC := hPN.out _ _ _ HC pO
 clear pO
 go_wp2_with (first | go_skip | refine lo_Cj kC ?_ | refine lo_cLj kC ?_ | refine lo_cJj kC ?_ | refine lo_Ej kE ?_ | refine lo_Cj kO ?_ | refine lo_cLj kO ?_ | refine lo_cJj kO ?_ | refine lo_rLj kR ?_ | refine lo_rCj kR ?_ | refine lo_Ej kX ?_)
 have hXe2 := hXe.out
 refine (push_any g c _ _ ({ zE with k := xk, j := cj }) yS ⟨_, _, _, _, kR, hR⟩ HF.out (by have := HK.out.n.2.1; omega) ⟨HK.out.n.2.2.1, HK.out.n.2.2.2.1⟩).mono ?_
 rintro e y44 ⟨rfl, o44, ⟨A44, n44, p44, v44, kR2, hR2⟩, hc, hn⟩
 have a2 := akC.next hn kC.lt
 replace kC := kC.ch hc akC
 replace akC := a2
 clear a2
 have a2 := akE.next hn kE.lt
 replace kE := kE.ch hc akE
 replace akE := a2
 clear a2
 have a2 := akO.next hn kO.lt
 replace kO := kO.ch hc akO
 replace akO := a2
 clear a2
 have a2 := akX.next hn kX.lt
 replace kX := kX.ch hc akX
 replace akX := a2
 clear a2
 have HN2 := HN.trans HC.size hn
 replace HC := HC.trans HN hc
 replace HN := HN2
 clear HN2 kR hR hc hn
 have kR := kR2
 have hR := hR2
 clear kR2 hR2
 rw [← hXe2] at kR hR
 clear hXe2
 have hE := Lh (hP1.out hPE0.out)
 obtain ⟨P, hP⟩ : ∃ q, pushC c X = q := ⟨_, rfl⟩
 have hGP : Hid (GoodN P 700001 ∧ P.id = c.id ∧ P.nx = c.nx) := by show _ ∧ _; rw [← hP]; exact ⟨cor.good_push HK.out.n hGp.out, rfl, rfl⟩
 rw [hP] at kR hR hE
 replace hP := Lh hP
 obtain ⟨la, hla⟩ : ∃ q, lastF P.lg = q := ⟨_, rfl⟩
 rw [hla] at hE
 replace hla := Lh hla
 go_wp2_with (first | go_skip | refine lo_Cj kC ?_ | refine lo_cLj kC ?_ | refine lo_cJj kC ?_ | refine lo_Ej kE ?_ | refine lo_Cj kO ?_ | refine lo_cLj kO ?_ | refine lo_cJj kO ?_ | refine lo_rLj kR ?_ | refine lo_rCj kR ?_ | refine lo_Ej kX ?_)
 have CC := ref12.rlast_any P.lg A44 n44 p44 y44 hR.rd.1 hGP.out.1.1
 rw [hla.out] at CC
 refine (CC).mono ?_
 rintro e y45 ⟨rfl, hY⟩
 replace HC := HC.trans HN (Ch.of_below g _ hY)
 replace kC := kC.b hY
 replace kE := kE.b hY
 replace kO := kO.b hY
 replace kR := kR.b hY
 replace kX := kX.b hY
 replace hR := hR.below hY
 clear hY
 clear CC
 go_wp2_with (first | go_skip | refine lo_Cj kC ?_ | refine lo_cLj kC ?_ | refine lo_cJj kC ?_ | refine lo_Ej kE ?_ | refine lo_Cj kO ?_ | refine lo_cLj kO ?_ | refine lo_cJj kO ?_ | refine lo_rLj kR ?_ | refine lo_rCj kR ?_ | refine lo_Ej kX ?_)
 refine (counts_any g P _ _ y45 ⟨_, _, _, _, kR, hR⟩ (good_more hGP.out.1 (by omega))).mono ?_
 rintro e y46 ⟨rfl, o46, ⟨A46, n46, p46, v46, kR2, hR2⟩, hc, hn⟩
 have a2 := akC.next hn kC.lt
 replace kC := kC.ch hc akC
 replace akC := a2
 clear a2
 have a2 := akE.next hn kE.lt
 replace kE := kE.ch hc akE
 replace akE := a2
 clear a2
 have a2 := akO.next hn kO.lt
 replace kO := kO.ch hc akO
 replace akO := a2
 clear a2
 have a2 := akX.next hn kX.lt
 replace kX := kX.ch hc akX
 replace akX := a2
 clear a2
 have HN2 := HN.trans HC.size hn
 replace HC := HC.trans HN hc
 replace HN := HN2
 clear HN2 kR hR hc hn
 have kR := kR2
 have hR := hR2
 clear kR2 hR2
 obtain ⟨D, hD⟩ : ∃ q, couC P = q := ⟨_, rfl⟩
 have hGD : Hid (GoodN D 700002 ∧ D.nx = c.nx) := by show _ ∧ _; rw [← hD]; exact ⟨good_cou hGP.out.1 (by omega), (couC_nx P).trans hGP.out.2.2⟩
 rw [hD] at kR hR hE
 replace hD := Lh hD
 obtain ⟨rd, hrd⟩ : ∃ q, D.ro = q := ⟨_, rfl⟩
 rw [hrd] at hE
 replace hrd := Lh hrd
 have crd : y46.cell? ⟨g, 1, none⟩ = some (.int .i64 rd) := by rw [← hrd.out]; exact kR.cell 1
 by_cases h2 : rd = 2
 ·
  have b2 : (rd == 2) = true := by simp [h2]
  have hE2 := hE.out
  rw [if_pos h2] at hE2
  replace hE2 := Lh hE2
  clear hE
  go_wp2_with (first | go_skip | refine lo_Cj kC ?_ | refine lo_cLj kC ?_ | refine lo_cJj kC ?_ | refine lo_Ej kE ?_ | refine lo_Cj kO ?_ | refine lo_cLj kO ?_ | refine lo_cJj kO ?_ | refine lo_rLj kR ?_ | refine lo_rCj kR ?_ | refine lo_Ej kX ?_)
  clear crd
  refine (all_any g D _ _ y46 ⟨_, _, _, _, kR, hR⟩ hGD.out.1.1 hGD.out.1.2.2.2.2.1 hGD.out.1.2.2.2.2.2.1 (fun q q1 q9 => by rw [show nxF D q = c.nx q.toNat from congrFun hGD.out.2 _]; exact HK.out.nx q.toNat (by omega)) (Nat.zero_le _)).mono ?_
  rintro e y47 ⟨rfl, o47, ⟨A47, n47, p47, v47, kR2, hR2⟩, hc, hn⟩
  have a2 := akC.next hn kC.lt
  replace kC := kC.ch hc akC
  replace akC := a2
  clear a2
  have a2 := akE.next hn kE.lt
  replace kE := kE.ch hc akE
  replace akE := a2
  clear a2
  have a2 := akO.next hn kO.lt
  replace kO := kO.ch hc akO
  replace akO := a2
  clear a2
  have a2 := akX.next hn kX.lt
  replace kX := kX.ch hc akX
  replace akX := a2
  clear a2
  have HN2 := HN.trans HC.size hn
  replace HC := HC.trans HN hc
  replace HN := HN2
  clear HN2 kR hR hc hn
  have kR := kR2
  have hR := hR2
  clear kR2 hR2
  go_upto_region 19 with (first | go_skip | refine lo_Cj kC ?_ | refine lo_cLj kC ?_ | refine lo_cJj kC ?_ | refine lo_Ej kE ?_ | refine lo_Cj kO ?_ | refine lo_cLj kO ?_ | refine lo_cJj kO ?_ | refine lo_rLj kR ?_ | refine lo_rCj kR ?_ | refine lo_Ej kX ?_)
  refine wp_region_held_drew (S := fun wq => Blk 99 wq g (rnC D (.slice A47 n47 p47) v47) ∧ wq.cell? ⟨g, 45, none⟩ = some v47) (by kernel_rfl) ?s_rpp19aj (fun hHeld => ?_)
  case s_rpp19aj => exact ⟨kR, kR.cell 45⟩
  have hD := (Below.refl y47.heap.size y47).drew
  replace HC := HC.trans HN (Ch.of_below g _ hD)
  replace kC := kC.b hD
  replace kE := kE.b hD
  replace kO := kO.b hD
  replace kR := kR.b hD
  replace kX := kX.b hD
  replace hR := hR.below hD
  clear hD
  generalize y47.drew = y48 at *
  iterate 3 (refine tx 0 _ ?_; try simp only [Act.put, ka, kb, kc])
  refine tj 3 _ ?_ (hy := fun wq hSw => rld_rC rfl rfl (And.left hSw))
  try simp only [Act.put, ka, kb, kc]
  iterate 5 (refine tx 4 _ ?_; try simp only [Act.put, ka, kb, kc])
  refine rr [9] ?_
  refine rc (fun KQ hKQ => ?_) AllReadyH.nil
  refine step_stAt rfl 33 _ _ rfl (cells := (crC D (.slice A47 n47 p47)).toArray) (crC D (.slice A47 n47 p47)) rfl rfl kO sizeCv (by show 0 + 45 ≤ 45; omega) (cr_one _) rfl ?_
  intro yz kO2 pO
  have kR2 := kR.put pO (Ne.symm akO.1)
  have hR2 := hR.far pO (by rw [HN.2]; exact hzO.out)
  clear kO kR
  have kR := kR2
  clear kR2
  refine hKQ.out _ _ (⟨kR, kR.cell 45⟩) (fun _ => ?_)
  clear hKQ KQ
  try simp only [Act.put]
  iterate 3 (refine tx 10 _ ?_; try simp only [Act.put, ka, kb, kc])
  refine wpAnyH_done (by kernel_rfl) ?_ _
  go_wp2_with go_skip
  (try simp only [Exit.inBlock, Exit.then])
  refine bodyPost_ret (res4 Tryz.results30 rfl rfl rfl rfl (aggC _) (sizeC _) (ldCv kO2)) rfl ?_
  have hfin : propF c x = (D, [] ++ allF D, la, 0) := by exact hE2.out
  rw [hfin]
  have HZ := HC.low (B := w.heap.size) (Nat.le_trans hlw.out hlg.out) (fun k h => by cases h) HB0.out.size
  exact ⟨_, _, _, _, rfl, hR2.rd, hR2.cap, RdMs.of_run hR2, pO.below _ _ (HB0.out.trans HZ) LEkO.out⟩
 ·
  have b2 : (rd == 2) = false := by simp [h2]
  have hE2 := hE.out
  rw [if_neg h2] at hE2
  replace hE2 := Lh hE2
  clear hE
  go_upto_region 19 with (first | go_skip | refine lo_Cj kC ?_ | refine lo_cLj kC ?_ | refine lo_cJj kC ?_ | refine lo_Ej kE ?_ | refine lo_Cj kO ?_ | refine lo_cLj kO ?_ | refine lo_cJj kO ?_ | refine lo_rLj kR ?_ | refine lo_rCj kR ?_ | refine lo_Ej kX ?_)
  refine wp_region_held_drew (S := fun wq => Blk 99 wq g (rnC D (.slice A46 n46 p46) v46) ∧ wq.cell? ⟨g, 45, none⟩ = some v46) (by kernel_rfl) ?s_rpp19bj (fun hHeld => ?_)
  case s_rpp19bj => exact ⟨kR, kR.cell 45⟩
  have hD := (Below.refl y46.heap.size y46).drew
  replace HC := HC.trans HN (Ch.of_below g _ hD)
  replace kC := kC.b hD
  replace kE := kE.b hD
  replace kO := kO.b hD
  replace kR := kR.b hD
  replace kX := kX.b hD
  replace hR := hR.below hD
  clear hD
  generalize y46.drew = y47 at *
  iterate 3 (refine tx 0 _ ?_; try simp only [Act.put, ka, kb, kc])
  refine tj 3 _ ?_ (hy := fun wq hSw => rld_rC rfl rfl (And.left hSw))
  try simp only [Act.put, ka, kb, kc]
  iterate 5 (refine tx 4 _ ?_; try simp only [Act.put, ka, kb, kc])
  refine rr [9] ?_
  refine rc (fun KQ hKQ => ?_) AllReadyH.nil
  refine step_stAt rfl 33 _ _ rfl (cells := (crC D (.slice A46 n46 p46)).toArray) (crC D (.slice A46 n46 p46)) rfl rfl kO sizeCv (by show 0 + 45 ≤ 45; omega) (cr_one _) rfl ?_
  intro yz kO2 pO
  have kR2 := kR.put pO (Ne.symm akO.1)
  have hR2 := hR.far pO (by rw [HN.2]; exact hzO.out)
  clear kO kR
  have kR := kR2
  clear kR2
  refine hKQ.out _ _ (⟨kR, kR.cell 45⟩) (fun _ => ?_)
  clear hKQ KQ
  try simp only [Act.put]
  iterate 3 (refine tx 10 _ ?_; try simp only [Act.put, ka, kb, kc])
  refine wpAnyH_done (by kernel_rfl) ?_ _
  go_wp2_with go_skip
  (try simp only [Exit.inBlock, Exit.then])
  refine bodyPost_ret (res4 Tryz.results30 rfl rfl rfl rfl (aggC _) (sizeC _) (ldCv kO2)) rfl ?_
  have hfin : propF c x = (D, [], la, 0) := by exact hE2.out
  rw [hfin]
  have HZ := HC.low (B := w.heap.size) (Nat.le_trans hlw.out hlg.out) (fun k h => by cases h) HB0.out.size
  exact ⟨_, _, _, _, rfl, hR2.rd, hR2.cap, RdMs.of_run hR2, pO.below _ _ (HB0.out.trans HZ) LEkO.out⟩
end Go.Proofs.YtegnfkbmlalkeaaGreat.ref13
