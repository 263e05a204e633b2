/- The landed core: proposal, Propose. Conditions: those that the theorems name. -/
import Derived.Deep.RegionHeld3
import Derived.Deep.Cut
import Derived.Lib.Hide
import Derived.Test.YtegnfkbmlalkeaaGreatSpKitCl
import Derived.Test.YtegnfkbmlalkeaaGreatSpCorCh13
import Derived.Test.YtegnfkbmlalkeaaGreatSpCorI13
import Derived.Test.YtegnfkbmlalkeaaGreatSpCorJ13
import Derived.Test.YtegnfkbmlalkeaaGreatSpKitLg
import Derived.Test.YtegnfkbmlalkeaaGreatSpJ0
set_option linter.unusedVariables false
set_option maxHeartbeats 16000000
set_option maxRecDepth 10000
namespace Go.Proofs.YtegnfkbmlalkeaaGreat.cor
open Go Go.RowKit kit nums cf lg cr se
def prX (c : CoL) (e : EnL) : EnL := if propE c e = 0 then propX c e else zE
theorem bd_ez {w : World} {ops : Array Oper} {rest : List Oper} {o : Oper} {a : Act} {Q : Exit → Act → World → Prop} (ho : o.op = .build 52 #[]) (hw : Region.wanted o (yielded ops a.tmps) = true)
  (h : wpList Tryz.prog ops Q rest (a.put o.dst (enV zE)) w) : wpList Tryz.prog ops Q (o :: rest) a w := by
 refine wpList_val hw ?_ h
 have hr : (Instr.build 52 #[]).run Tryz.prog w = .ok (enV zE) w := by kernel_rfl
 unfold execOp
 simp [ho, hr]
theorem pr_err {c : CoL} {e : EnL} {k : Int} (h : propE c e = k) (hk : k ≠ 0) : prX c e = zE := by unfold prX; rw [h, if_neg hk]
theorem pe_lead {c : CoL} {e : EnL} (h : ¬ c.ro = 2) : propE c e = 27 := by unfold propE; rw [if_pos h]
theorem pe_form {c : CoL} {e : EnL} (h : c.ro = 2) (hk : ¬ e.k = 1) (hk2 : ¬ e.k = 2) : propE c e = 9 := by unfold propE; rw [if_neg (by omega), if_pos ⟨hk, hk2⟩]
theorem pe_full {c : CoL} {e : EnL} (h : c.ro = 2) (hk : e.k = 1 ∨ e.k = 2) (hl : 4032 ≤ c.lg.es.length) : propE c e = 8 := by unfold propE; rw [if_neg (by omega), if_neg (by omega), if_pos hl]
theorem pe_cmd {c : CoL} {e : EnL} (h : c.ro = 2) (hk : e.k = 1) (hl : ¬ 4032 ≤ c.lg.es.length) : propE c e = 0 ∧ prX c e = { zE with k := 1, d := e.d } := by
 have e1 : propE c e = 0 := by unfold propE; rw [if_neg (by omega), if_neg (by omega), if_neg hl, if_neg (by omega)]
 refine ⟨e1, ?_⟩
 unfold prX propX; rw [e1, if_pos rfl, if_neg (by omega), hk]
theorem pe_conf {c : CoL} {e : EnL} (h : c.ro = 2) (hk : e.k = 2) (hl : ¬ 4032 ≤ c.lg.es.length) : propE c e = chE c e.j.b ∧ (chE c e.j.b = 0 → prX c e = { zE with k := 2, j := chJ c e.j.b }) := by
 have e1 : propE c e = chE c e.j.b := by unfold propE; rw [if_neg (by omega), if_neg (by omega), if_neg hl, if_pos hk]
 refine ⟨e1, fun h0 => ?_⟩
 unfold prX propX chJ; rw [e1, if_pos h0, if_pos hk, if_pos h0]
theorem prop_err {c : CoL} {e : EnL} (h : propE c e ≠ 0) : propF c e = (zC, [], 0, propE c e) := by unfold propF; rw [if_neg h]
theorem prop_ok {c : CoL} {e : EnL} (h : propE c e = 0) : propF c e = (couC (pushC c (prX c e)), if (couC (pushC c (prX c e))).ro = 2 then allF (couC (pushC c (prX c e))) else [], lastF (pushC c (prX c e)).lg, 0) := by
 unfold propF; rw [if_pos h]; unfold prX; rw [if_pos h]
theorem proposal_any (c : CoL) (A : Option Addr) (n p : Nat) (x : EnL) (w : World) (B : Nat) (hR : RdE w B A n c.lg.es) (hB : B ≤ w.heap.size) (hp : n ≤ p) (hf : Fit c.lg) (hj : (conC c).ok) (ht : x.j.b.ok) : Calls Tryz.prog 88 #[crV c (.slice A n p), enV x] w fun e w' => e = .returned (.tuple #[enV (prX c x), .int .i64 (propE c x)]) ∧ Below w.heap.size w w' := by
 have HF := Lh hf
 have HJ := Lh hj
 have HT := Lh ht
 have hlen := Lh hR.len
 have hpe := Lh (fun (k : Int) h hk => pr_err (c := c) (e := x) (k := k) h hk)
 have e1 := Lh (fun h => pe_lead (c := c) (e := x) h)
 have e2 := Lh (fun h a b => pe_form (c := c) (e := x) h a b)
 have e3 := Lh (fun h a b => pe_full (c := c) (e := x) h a b)
 have e4 := Lh (fun h a b => pe_cmd (c := c) (e := x) h a b)
 have e5 := Lh (fun h a b => pe_conf (c := c) (e := x) h a b)
 obtain ⟨ro, hro⟩ : ∃ q, c.ro = q := ⟨_, rfl⟩
 obtain ⟨xk, hxk⟩ : ∃ q, x.k = q := ⟨_, rfl⟩
 obtain ⟨xd, hxd⟩ : ∃ q, x.d = q := ⟨_, rfl⟩
 obtain ⟨ce, hce⟩ : ∃ q, chE c x.j.b = q := ⟨_, rfl⟩
 obtain ⟨cj, hcj⟩ : ∃ q, chJ c x.j.b = q := ⟨_, rfl⟩
 obtain ⟨X, hX⟩ : ∃ q, prX c x = q := ⟨_, rfl⟩
 obtain ⟨PE, hPE⟩ : ∃ q, propE c x = q := ⟨_, rfl⟩
 rw [hX, hPE] at hpe
 rw [hro] at e1 e2 e3 e4 e5
 rw [hxk] at e2 e3 e4 e5
 rw [hxd, hX] at e4
 rw [hX, hce, hcj] at e5
 rw [hPE] at e1 e2 e3 e4 e5
 rw [hX, hPE]
 have hn6 : n ≤ 1000000 := by rw [← hlen.out]; exact hf.2.2
 clear hf hj ht hX hPE
 replace hro := Lh hro
 replace hxk := Lh hxk
 replace hxd := Lh hxd
 replace hce := Lh hce
 replace hcj := Lh hcj
 replace hn6 := Lh hn6
 have R0 := hR.more hB
 clear hR hB
 go_enter Tryz.func88, Tryz.ntmps88
 go_wp2_with (first | go_skip | refine box_C rfl _ rfl c (.slice A n p) rfl ?_ | fail)
 intro y1 kC e1 s1
 clear s1
 have HB := e1
 replace R0 := R0.on e1 e1.size
 clear e1
 go_wp2_with (first | go_skip | refine box_E rfl _ rfl x rfl ?_ | (first | refine lo_Cj kC ?_ | refine lo_cLj kC ?_ | refine lo_cJj kC ?_))
 intro y2 kE e2 s2
 clear s2
 replace HB := bt HB e2
 replace kC := kC.b e2
 replace R0 := R0.on e2 e2.size
 clear e2
 generalize y1.heap.size = gkE at *
 have LTkCkO := Lh kC.lt
 have LTkEkO := Lh kE.lt
 have NIR0kO := Lh (NotIn.of_rd R0 (Nat.le_refl _))
 have LEkO : Hid (w.heap.size ≤ y2.heap.size) := HB.size
 go_wp2_with (first | go_skip | refine al_E rfl rfl ?_ | (first | refine lo_Cj kC ?_ | refine lo_cLj kC ?_ | refine lo_cJj kC ?_ | refine lo_Ej kE ?_))
 intro y3 kO e3 s3
 clear s3
 replace kO : Blk _ _ _ (enC zE) := kO
 replace HB := bt HB e3
 replace kC := kC.b e3
 replace kE := kE.b e3
 replace R0 := R0.on e3 e3.size
 clear e3
 generalize y2.heap.size = gkO at *
 have cro : y3.cell? ⟨w.heap.size, 1, none⟩ = some (.int .i64 ro) := by rw [← hro.out]; exact kC.cell 1
 have cxk : y3.cell? ⟨gkE, 1, none⟩ = some (.int .i64 xk) := by rw [← hxk.out]; exact kE.cell 1
 have cls : y3.cell? ⟨w.heap.size, 21, none⟩ = some (.slice A n p) := kC.cell 21
 by_cases h1 : ro = 2
 rotate_left
 ·
  have b1 : (ro != 2) = true := by simp [h1]
  have hE1 : PE = 27 := e1.out h1
  have hE2 := hpe.out 27 hE1 (by decide)
  subst hE1
  subst hE2
  go_wp2_with (first | go_skip | refine st_E rfl _ _ rfl zE rfl rfl _ kO rfl ?_ | (first | refine lo_Cj kC ?_ | refine lo_cLj kC ?_ | refine lo_cJj kC ?_ | refine lo_Ej kE ?_ | refine lo_Ej kO ?_ | refine bd_ez rfl rfl ?_))
  intro y4 kO2 pO
  replace kC := kC.put pO (Nat.ne_of_lt LTkCkO.out)
  replace kE := kE.put pO (Nat.ne_of_lt LTkEkO.out)
  replace R0 := R0.putS pO NIR0kO.out
  replace HB := pO.below _ _ HB LEkO.out
  clear kO
  have kO := kO2
  clear kO2 pO
  try clear cro cxk cls
  go_wp2_with (first | go_skip | refine lo_Cj kC ?_ | refine lo_cLj kC ?_ | refine lo_cJj kC ?_ | refine lo_Ej kE ?_ | refine lo_Ej kO ?_)
  (try simp only [Exit.inBlock, Exit.then])
  refine bodyPost_ret (res2 Tryz.results88 rfl rfl (aggE _) (sizeE _) (ldEv kO)) rfl ?_
  exact ⟨rfl, HB⟩
 have b1 : (ro != 2) = false := by simp [h1]
 have h1h := Lh h1
 clear h1
 by_cases k1 : xk = 1
 ·
  have b2 : (xk != 1) = false := by simp [k1]
  have b3 : (xk == 1) = true := by simp [k1]
  have hkk : Hid (xk = 1 ∨ xk = 2) := .inl k1
  have k1h := Lh k1
  clear k1
  by_cases hn4 : (4032 : Int) ≤ (n : Int)
  ·
   have hge : (n : Int) ≥ 4032 := hn4
   have hE1 : PE = 8 := e3.out h1h.out hkk.out (by have := hlen.out; omega)
   have hE2 := hpe.out 8 hE1 (by decide)
   subst hE1
   subst hE2
   go_wp2_with (first | go_skip | refine st_E rfl _ _ rfl zE rfl rfl _ kO rfl ?_ | (first | refine lo_Cj kC ?_ | refine lo_cLj kC ?_ | refine lo_cJj kC ?_ | refine lo_Ej kE ?_ | refine lo_Ej kO ?_ | refine bd_ez rfl rfl ?_))
   intro y4 kO2 pO
   replace kC := kC.put pO (Nat.ne_of_lt LTkCkO.out)
   replace kE := kE.put pO (Nat.ne_of_lt LTkEkO.out)
   replace R0 := R0.putS pO NIR0kO.out
   replace HB := pO.below _ _ HB LEkO.out
   clear kO
   have kO := kO2
   clear kO2 pO
   try clear cro cxk cls
   go_wp2_with (first | go_skip | refine lo_Cj kC ?_ | refine lo_cLj kC ?_ | refine lo_cJj kC ?_ | refine lo_Ej kE ?_ | refine lo_Ej kO ?_)
   (try simp only [Exit.inBlock, Exit.then])
   refine bodyPost_ret (res2 Tryz.results88 rfl rfl (aggE _) (sizeE _) (ldEv kO)) rfl ?_
   exact ⟨rfl, HB⟩
  have hge : ¬ (n : Int) ≥ 4032 := hn4
  have hsz : Hid (¬ 4032 ≤ c.lg.es.length) := by show ¬ _; have := hlen.out; omega
  clear hn4
  have cxd : y3.cell? ⟨gkE, 2, none⟩ = some (.string xd) := by rw [← hxd.out]; exact kE.cell 2
  have hE := e4.out h1h.out k1h.out hsz.out
  obtain ⟨hE1, hE2⟩ := hE
  subst hE1
  replace hE2 := Lh hE2
  go_wp2_with (first | go_skip | refine st_E rfl _ _ rfl { zE with k := xk, d := xd } rfl rfl _ kO rfl ?_ | (first | refine lo_Cj kC ?_ | refine lo_cLj kC ?_ | refine lo_cJj kC ?_ | refine lo_Ej kE ?_ | refine lo_Ej kO ?_ | refine bd_ecmd xk xd rfl rfl rfl rfl ?_))
  intro y4 kO2 pO
  replace kC := kC.put pO (Nat.ne_of_lt LTkCkO.out)
  replace kE := kE.put pO (Nat.ne_of_lt LTkEkO.out)
  replace R0 := R0.putS pO NIR0kO.out
  replace HB := pO.below _ _ HB LEkO.out
  clear kO
  have kO := kO2
  clear kO2 pO
  clear cro cxk cls cxd
  go_wp2_with (first | go_skip | refine lo_Cj kC ?_ | refine lo_cLj kC ?_ | refine lo_cJj kC ?_ | refine lo_Ej kE ?_ | refine lo_Ej kO ?_)
  (try simp only [Exit.inBlock, Exit.then])
  refine bodyPost_ret (res2 Tryz.results88 rfl rfl (aggE _) (sizeE _) (ldEv kO)) rfl ?_
  rw [hE2.out, ← k1h.out]
  exact ⟨rfl, HB⟩
 have b2 : (xk != 1) = true := by simp [k1]
 have b3 : (xk == 1) = false := by simp [k1]
 have k1h := Lh k1
 clear k1
 by_cases k2 : xk = 2
 rotate_left
 ·
  have b4 : (xk != 2) = true := by simp [k2]
  have k2h := Lh k2
  clear k2
  have hE1 : PE = 9 := e2.out h1h.out k1h.out k2h.out
  have hE2 := hpe.out 9 hE1 (by decide)
  subst hE1
  subst hE2
  go_wp2_with (first | go_skip | refine st_E rfl _ _ rfl zE rfl rfl _ kO rfl ?_ | (first | refine lo_Cj kC ?_ | refine lo_cLj kC ?_ | refine lo_cJj kC ?_ | refine lo_Ej kE ?_ | refine lo_Ej kO ?_ | refine bd_ez rfl rfl ?_))
  intro y4 kO2 pO
  replace kC := kC.put pO (Nat.ne_of_lt LTkCkO.out)
  replace kE := kE.put pO (Nat.ne_of_lt LTkEkO.out)
  replace R0 := R0.putS pO NIR0kO.out
  replace HB := pO.below _ _ HB LEkO.out
  clear kO
  have kO := kO2
  clear kO2 pO
  try clear cro cxk cls
  go_wp2_with (first | go_skip | refine lo_Cj kC ?_ | refine lo_cLj kC ?_ | refine lo_cJj kC ?_ | refine lo_Ej kE ?_ | refine lo_Ej kO ?_)
  (try simp only [Exit.inBlock, Exit.then])
  refine bodyPost_ret (res2 Tryz.results88 rfl rfl (aggE _) (sizeE _) (ldEv kO)) rfl ?_
  exact ⟨rfl, HB⟩
 have b4 : (xk != 2) = false := by simp [k2]
 have hkk : Hid (xk = 1 ∨ xk = 2) := .inr k2
 have k2h := Lh k2
 clear k2
 by_cases hn4 : (4032 : Int) ≤ (n : Int)
 ·
  have hge : (n : Int) ≥ 4032 := hn4
  have hE1 : PE = 8 := e3.out h1h.out hkk.out (by have := hlen.out; omega)
  have hE2 := hpe.out 8 hE1 (by decide)
  subst hE1
  subst hE2
  go_wp2_with (first | go_skip | refine st_E rfl _ _ rfl zE rfl rfl _ kO rfl ?_ | (first | refine lo_Cj kC ?_ | refine lo_cLj kC ?_ | refine lo_cJj kC ?_ | refine lo_Ej kE ?_ | refine lo_Ej kO ?_ | refine bd_ez rfl rfl ?_))
  intro y4 kO2 pO
  replace kC := kC.put pO (Nat.ne_of_lt LTkCkO.out)
  replace kE := kE.put pO (Nat.ne_of_lt LTkEkO.out)
  replace R0 := R0.putS pO NIR0kO.out
  replace HB := pO.below _ _ HB LEkO.out
  clear kO
  have kO := kO2
  clear kO2 pO
  try clear cro cxk cls
  go_wp2_with (first | go_skip | refine lo_Cj kC ?_ | refine lo_cLj kC ?_ | refine lo_cJj kC ?_ | refine lo_Ej kE ?_ | refine lo_Ej kO ?_)
  (try simp only [Exit.inBlock, Exit.then])
  refine bodyPost_ret (res2 Tryz.results88 rfl rfl (aggE _) (sizeE _) (ldEv kO)) rfl ?_
  exact ⟨rfl, HB⟩
 have hge : ¬ (n : Int) ≥ 4032 := hn4
 have hsz : Hid (¬ 4032 ≤ c.lg.es.length) := by show ¬ _; have := hlen.out; omega
 clear hn4
 go_wp2_with (first | go_skip | refine lo_Cj kC ?_ | refine lo_cLj kC ?_ | refine lo_cJj kC ?_ | refine lo_Ej kE ?_ | refine lo_Ej kO ?_ | refine lo_eF _ rfl rfl rfl kE ?_)
 clear cro cxk cls
 have CC := change_any c A n p x.j.b y3 y3.heap.size R0 (Nat.le_refl _) hp HF.out HJ.out HT.out
 rw [hce.out, hcj.out] at CC
 refine (CC).mono ?_
 rintro e y4 ⟨rfl, hY⟩
 replace HB := bt HB hY
 replace kC := kC.b hY
 replace kE := kE.b hY
 replace kO := kO.b hY
 replace R0 := R0.on hY hY.size
 clear hY
 clear CC
 have LTkCkJ := Lh kC.lt
 have LTkEkJ := Lh kE.lt
 have LTkOkJ := Lh kO.lt
 have NIR0kJ := Lh (NotIn.of_rd R0 (Nat.le_refl _))
 have LEkJ : Hid (w.heap.size ≤ y4.heap.size) := HB.size
 go_wp2_with (first | go_skip | refine al_J rfl rfl ?_ | (first | refine lo_Cj kC ?_ | refine lo_cLj kC ?_ | refine lo_cJj kC ?_ | refine lo_Ej kE ?_ | refine lo_Ej kO ?_))
 intro y5 kJ e5 s5
 clear s5
 replace kJ : Blk _ _ _ (jC zeroJ) := kJ
 replace HB := bt HB e5
 replace kC := kC.b e5
 replace kE := kE.b e5
 replace kO := kO.b e5
 replace R0 := R0.on e5 e5.size
 clear e5
 generalize y4.heap.size = gkJ at *
 go_wp2_with (first | go_skip | refine st_Jv rfl _ _ rfl cj rfl rfl _ kJ rfl ?_ | (first | refine lo_Cj kC ?_ | refine lo_cLj kC ?_ | refine lo_cJj kC ?_ | refine lo_Ej kE ?_ | refine lo_Ej kO ?_ | refine lo_Jj kJ ?_))
 intro y6 kJ2 pO
 replace kC := kC.put pO (Nat.ne_of_lt LTkCkJ.out)
 replace kE := kE.put pO (Nat.ne_of_lt LTkEkJ.out)
 replace kO := kO.put pO (Nat.ne_of_lt LTkOkJ.out)
 replace R0 := R0.putS pO NIR0kJ.out
 replace HB := pO.below _ _ HB LEkJ.out
 clear kJ
 have kJ := kJ2
 clear kJ2 pO
 have hE := e5.out h1h.out k2h.out hsz.out
 obtain ⟨hE1, hE2⟩ := hE
 by_cases hc0 : ce = 0
 rotate_left
 ·
  have b5 : (ce != 0) = true := by simp [hc0]
  have hE3 := hpe.out ce hE1 hc0
  subst hE1
  subst hE3
  replace hc0 := Lh hc0
  clear hE2
  go_wp2_with (first | go_skip | refine st_E rfl _ _ rfl zE rfl rfl _ kO rfl ?_ | (first | refine lo_Cj kC ?_ | refine lo_cLj kC ?_ | refine lo_cJj kC ?_ | refine lo_Ej kE ?_ | refine lo_Ej kO ?_ | refine lo_Jj kJ ?_ | refine bd_ez rfl rfl ?_))
  intro y7 kO2 pO
  replace kC := kC.put pO (Nat.ne_of_lt LTkCkO.out)
  replace kE := kE.put pO (Nat.ne_of_lt LTkEkO.out)
  replace kJ := kJ.put pO (Nat.ne_of_gt LTkOkJ.out)
  replace R0 := R0.putS pO NIR0kO.out
  replace HB := pO.below _ _ HB LEkO.out
  clear kO
  have kO := kO2
  clear kO2 pO
  go_wp2_with (first | go_skip | refine lo_Cj kC ?_ | refine lo_cLj kC ?_ | refine lo_cJj kC ?_ | refine lo_Ej kE ?_ | refine lo_Ej kO ?_ | refine lo_Jj kJ ?_)
  (try simp only [Exit.inBlock, Exit.then])
  refine bodyPost_ret (res2 Tryz.results88 rfl rfl (aggE _) (sizeE _) (ldEv kO)) rfl ?_
  exact ⟨rfl, HB⟩
 have b5 : (ce != 0) = false := by simp [hc0]
 have hE3 := Lh (hE2 hc0)
 have hPE0 := Lh (hE1.trans hc0)
 clear hE1 hE2
 replace hc0 := Lh hc0
 have cxk : y6.cell? ⟨gkE, 1, none⟩ = some (.int .i64 xk) := by rw [← hxk.out]; exact kE.cell 1
 go_wp2_with (first | go_skip | refine st_E rfl _ _ rfl { zE with k := xk, j := cj } rfl rfl _ kO rfl ?_ | (first | refine lo_Cj kC ?_ | refine lo_cLj kC ?_ | refine lo_cJj kC ?_ | refine lo_Ej kE ?_ | refine lo_Ej kO ?_ | refine lo_Jj kJ ?_ | refine bd_econ xk cj rfl rfl rfl rfl ?_))
 intro y7 kO2 pO
 replace kC := kC.put pO (Nat.ne_of_lt LTkCkO.out)
 replace kE := kE.put pO (Nat.ne_of_lt LTkEkO.out)
 replace kJ := kJ.put pO (Nat.ne_of_gt LTkOkJ.out)
 replace R0 := R0.putS pO NIR0kO.out
 replace HB := pO.below _ _ HB LEkO.out
 clear kO
 have kO := kO2
 clear kO2 pO
 clear cxk
 go_wp2_with (first | go_skip | refine lo_Cj kC ?_ | refine lo_cLj kC ?_ | refine lo_cJj kC ?_ | refine lo_Ej kE ?_ | refine lo_Ej kO ?_ | refine lo_Jj kJ ?_)
 (try simp only [Exit.inBlock, Exit.then])
 refine bodyPost_ret (res2 Tryz.results88 rfl rfl (aggE _) (sizeE _) (ldEv kO)) rfl ?_
 rw [hE3.out, hPE0.out, ← k2h.out]
 exact ⟨rfl, HB⟩
theorem good_push {c : CoL} {x : EnL} {N : Nat} (h : GoodN c N) (hx : x.k = 2 → x.j.ok ∧ mayJ x.j = true) (hN : N ≤ 900000 := by omega) : GoodN (pushC c x) (N + 1) := by
 have e := ref13.conC_push c x
 have e2 := ref13.lastF_push c x
 have hl : (pushC c x).lg.es.length = c.lg.es.length + 1 := by show (c.lg.es ++ [_]).length = _; rw [List.length_append]; rfl
 refine ⟨⟨h.1.1, h.1.2.1, by rw [hl]; have := h.2.1; omega⟩, by rw [hl]; have := h.2.1; omega, h.2.2.1, h.2.2.2.1, ?_, ?_, h.2.2.2.2.2.2.1, ?_⟩
 ·
  rw [e]; split
  · rename_i hk; exact (hx hk).1
  · exact h.2.2.2.2.1
 ·
  rw [e]; split
  · rename_i hk; exact (hx hk).2
  · exact h.2.2.2.2.2.1
 · rw [e2]; have := h.2.2.2.2.2.2.2; show c.cm ≤ _; omega
theorem propose_any (c : CoL) (A : Option Addr) (n p : Nat) (x : EnL) (w : World) (B : Nat) (hR : RdE w B A n c.lg.es) (hB : B ≤ w.heap.size) (hp : n ≤ p) (hk : GoodK c) (ht : x.j.b.ok) (hxj : (prX c x).k = 2 → (prX c x).j.ok ∧ mayJ (prX c x).j = true) : Calls Tryz.prog 29 #[crV c (.slice A n p), enV x] w fun e w' => ∃ A' n' p' v B', e = .returned (.tuple #[crV (propF c x).1 (.slice A' n' p'), v, .int .i64 (propF c x).2.2.1, .int .i64 (propF c x).2.2.2]) ∧ RdE w' B' A' n' (propF c x).1.lg.es ∧ n' ≤ p' ∧ OldNew w.heap.size A n A' n' ∧ OutL w' B' v (propF c x).2.1 ∧ w.heap.size ≤ B' ∧ B' ≤ w'.heap.size ∧ Below w.heap.size w w' := by
 have HK := Lh hk
 have hlen := Lh hR.len
 have HT := Lh ht
 have hP0 := Lh (fun h => prop_err (c := c) (e := x) h)
 have hP1 := Lh (fun h => prop_ok (c := c) (e := x) h)
 obtain ⟨X, hX⟩ : ∃ q, prX c x = q := ⟨_, rfl⟩
 obtain ⟨PE, hPE⟩ : ∃ q, propE c x = q := ⟨_, rfl⟩
 rw [hPE] at hP0 hP1
 rw [hX] at hP1
 have hGp : Hid (X.k = 2 → X.j.ok ∧ mayJ X.j = true) := by show X.k = 2 → _; rw [← hX]; exact hxj
 clear hk ht
 replace hX := Lh hX
 replace hPE := Lh hPE
 clear hxj
 have R0 := hR.more hB
 clear hR hB
 go_enter Tryz.func29, Tryz.ntmps29
 go_wp2_with (first | go_skip | refine box_C rfl _ rfl c (.slice A n p) rfl ?_ | fail)
 intro y1 kC e1 s1
 clear s1
 have HB := e1
 replace R0 := R0.on e1 e1.size
 clear e1
 have LTkCkE := Lh kC.lt
 have NIR0kE := Lh (NotIn.of_rd R0 (Nat.le_refl _))
 have LEkE : Hid (w.heap.size ≤ y1.heap.size) := HB.size
 go_wp2_with (first | go_skip | refine box_E rfl _ rfl x rfl ?_ | (first | refine lo_Cj kC ?_ | refine lo_cLj kC ?_ | refine lo_cJj kC ?_))
 intro y2 kE e2 s2
 clear s2
 replace HB := bt HB e2
 replace kC := kC.b e2
 replace R0 := R0.on e2 e2.size
 clear e2
 generalize y1.heap.size = gkE at *
 have LTkCkO := Lh kC.lt
 have LTkEkO := Lh kE.lt
 have NIR0kO := Lh (NotIn.of_rd R0 (Nat.le_refl _))
 have LEkO : Hid (w.heap.size ≤ y2.heap.size) := HB.size
 go_wp2_with (first | go_skip | refine al_C rfl rfl ?_ | (first | refine lo_Cj kC ?_ | refine lo_cLj kC ?_ | refine lo_cJj kC ?_ | refine lo_Ej kE ?_))
 intro y3 kO e3 s3
 clear s3
 replace kO : Blk _ _ _ (crC zC (.slice none 0 0)) := kO
 replace HB := bt HB e3
 replace kC := kC.b e3
 replace kE := kE.b e3
 replace R0 := R0.on e3 e3.size
 clear e3
 generalize y2.heap.size = gkO at *
 go_wp2_with (first | go_skip | refine lo_Cj kC ?_ | refine lo_cLj kC ?_ | refine lo_cJj kC ?_ | refine lo_Ej kE ?_ | refine lo_Cj kO ?_ | refine lo_cLj kO ?_ | refine lo_cJj kO ?_)
 have CC := proposal_any c A n p x y3 y3.heap.size R0 (Nat.le_refl _) hp HK.out.n.1 HK.out.n.2.2.2.2.1 HT.out
 rw [hX.out, hPE.out] at CC
 refine (CC).mono ?_
 rintro e y4 ⟨rfl, hY⟩
 replace HB := bt HB hY
 replace kC := kC.b hY
 replace kE := kE.b hY
 replace kO := kO.b hY
 replace R0 := R0.on hY hY.size
 clear hY
 clear CC
 go_wp2_with (first | go_skip | refine st_E rfl _ _ rfl X rfl rfl _ kE rfl ?_ | (first | refine lo_Cj kC ?_ | refine lo_cLj kC ?_ | refine lo_cJj kC ?_ | refine lo_Ej kE ?_ | refine lo_Cj kO ?_ | refine lo_cLj kO ?_ | refine lo_cJj kO ?_))
 intro y5 kE2 pO
 replace kC := kC.put pO (Nat.ne_of_lt LTkCkE.out)
 replace kO := kO.put pO (Nat.ne_of_gt LTkEkO.out)
 replace R0 := R0.putS pO NIR0kE.out
 replace HB := pO.below _ _ HB LEkE.out
 clear kE
 have kE := kE2
 clear kE2 pO
 by_cases h0 : PE = 0
 rotate_left
 ·
  have b0 : (PE != 0) = true := by simp [h0]
  have hE := Lh (hP0.out h0)
  replace h0 := Lh h0
  have RZ : RdE y5 y5.heap.size none 0 [] := RdE.nil _ _ _
  have NIRZkO := Lh (NotIn.nil gkO none)
  have hO := OutL.nil y5 y5.heap.size
  have hB7 := Lh (HB.size)
  have RB := RZ
  have RBz := Lh (Nat.le_refl y5.heap.size)
  have LBhOkC := Lh kC.lt
  have LBhOkE := Lh kE.lt
  have LBhOkO := Lh kO.lt
  have NIRBkO := NIRZkO
  obtain ⟨B9, hB9⟩ : ∃ q, y5.heap.size = q := ⟨_, rfl⟩
  rw [hB9] at hO hB7 RB RBz LBhOkC LBhOkE LBhOkO
  replace RBz := Lh (show B9 ≤ y5.heap.size by rw [hB9]; exact Nat.le_refl _)
  clear hB9
  go_wp2_with (first | go_skip | refine st_C rfl _ _ rfl zC none 0 0 rfl rfl _ kO rfl ?_ | (first | refine lo_Cj kC ?_ | refine lo_cLj kC ?_ | refine lo_cJj kC ?_ | refine lo_Ej kE ?_ | refine lo_Cj kO ?_ | refine lo_cLj kO ?_ | refine lo_cJj kO ?_ | refine bd_c0 rfl rfl ?_))
  intro y6 kO2 pO
  replace kC := kC.put pO (Nat.ne_of_lt LTkCkO.out)
  replace kE := kE.put pO (Nat.ne_of_lt LTkEkO.out)
  replace R0 := R0.putS pO NIR0kO.out
  replace RZ := RZ.putS pO NIRZkO.out
  replace hO := hO.put pO LBhOkO.out
  replace RB := RB.putN pO NIRBkO.out
  replace RBz := Lh (Nat.le_trans RBz.out (Nat.le_of_eq pO.size.symm))
  replace HB := pO.below _ _ HB LEkO.out
  clear kO
  have kO := kO2
  clear kO2 pO
  go_wp2_with (first | go_skip | refine lo_Cj kC ?_ | refine lo_cLj kC ?_ | refine lo_cJj kC ?_ | refine lo_Ej kE ?_ | refine lo_Cj kO ?_ | refine lo_cLj kO ?_ | refine lo_cJj kO ?_)
  (try simp only [Exit.inBlock, Exit.then])
  refine bodyPost_ret (res4 Tryz.results29 rfl rfl rfl rfl (aggC _) (sizeC _) (ldCv kO)) rfl ?_
  rw [hE.out]
  first | exact ⟨none, 0, 0, _, B9, rfl, RB, Nat.le_refl _, OldNew.nil _ _ _ _, hO, hB7.out, RBz.out, HB⟩ | exact ⟨none, 0, 0, _, rfl, B9, RB, Nat.le_refl _, OldNew.nil _ _ _ _, hO, hB7.out, RBz.out, HB⟩
 have b0 : (PE != 0) = false := by simp [h0]
 have hE := Lh (hP1.out h0)
 replace h0 := Lh h0
 go_wp2_with (first | go_skip | refine lo_Cj kC ?_ | refine lo_cLj kC ?_ | refine lo_cJj kC ?_ | refine lo_Ej kE ?_ | refine lo_Cj kO ?_ | refine lo_cLj kO ?_ | refine lo_cJj kO ?_)
 refine (push_any c A n p X y5 y5.heap.size R0 (Nat.le_refl _) hp HK.out.n.1 ⟨HK.out.id1, HK.out.n.2.2.2.1⟩ (by have := HK.out.n.2.1; omega)).mono ?_
 rintro e y6 ⟨A1, n1, p1, rfl, R1, hp1, ON1, hY⟩
 have NIR1kO := Lh (NIR0kO.out.next ON1 kO.lt)
 have ON12 := Lh ((OldNew.refl w.heap.size A n).trans ON1 HB.size)
 clear ON1
 replace HB := bt HB hY
 replace kC := kC.b hY
 replace kE := kE.b hY
 replace kO := kO.b hY
 replace R0 := R0.on hY hY.size
 clear hY
 obtain ⟨P, hP⟩ : ∃ q, pushC c X = q := ⟨_, rfl⟩
 have hGP : Hid (GoodN P 700001 ∧ Mt P ∧ P.id = c.id ∧ P.nx = c.nx) := by
  show _ ∧ _
  rw [← hP]
  exact ⟨good_push HK.out.n hGp.out, mt_push (fun k hk2 => HK.out.mt k hk2), rfl, rfl⟩
 rw [hP] at R1 hE ⊢
 replace hP := Lh hP
 obtain ⟨la, hla⟩ : ∃ q, lastF P.lg = q := ⟨_, rfl⟩
 rw [hla] at hE
 replace hla := Lh hla
 have hlenP := Lh R1.len
 go_wp2_with (first | go_skip | refine st_C rfl _ _ rfl P A1 n1 p1 rfl rfl _ kO rfl ?_ | (first | refine lo_Cj kC ?_ | refine lo_cLj kC ?_ | refine lo_cJj kC ?_ | refine lo_Ej kE ?_ | refine lo_Cj kO ?_ | refine lo_cLj kO ?_ | refine lo_cJj kO ?_))
 intro y7 kO2 pO
 replace kC := kC.put pO (Nat.ne_of_lt LTkCkO.out)
 replace kE := kE.put pO (Nat.ne_of_lt LTkEkO.out)
 replace R0 := R0.putS pO NIR0kO.out
 replace R1 := R1.putS pO NIR1kO.out
 replace HB := pO.below _ _ HB LEkO.out
 clear kO
 have kO := kO2
 clear kO2 pO
 go_wp2_with (first | go_skip | refine lo_Cj kC ?_ | refine lo_cLj kC ?_ | refine lo_cJj kC ?_ | refine lo_Ej kE ?_ | refine lo_Cj kO ?_ | refine lo_cLj kO ?_ | refine lo_cJj kO ?_)
 have CC := enti.last_any P.lg A1 n1 p1 y7 hlenP.out hGP.out.1.1
 rw [hla.out] at CC
 refine (CC).mono ?_
 rintro e y8 ⟨rfl, hY⟩
 replace HB := bt HB hY
 replace kC := kC.b hY
 replace kE := kE.b hY
 replace kO := kO.b hY
 replace R0 := R0.on hY hY.size
 replace R1 := R1.on hY hY.size
 clear hY
 go_wp2_with (first | go_skip | refine lo_Cj kC ?_ | refine lo_cLj kC ?_ | refine lo_cJj kC ?_ | refine lo_Ej kE ?_ | refine lo_Cj kO ?_ | refine lo_cLj kO ?_ | refine lo_cJj kO ?_)
 clear CC
 refine (count_any P A1 n1 p1 y8 y8.heap.size R1 (Nat.le_refl _) hp1 (ref13.good_more hGP.out.1 (by omega)) hGP.out.2.1 (by rw [hGP.out.2.2.1]; exact HK.out.id1)).mono ?_
 rintro e y9 ⟨A2, n2, p2, rfl, R2, hp2, ON2, hY⟩
 have NIR2kO := Lh (NIR1kO.out.next ON2 kO.lt)
 have ON22 := Lh (ON12.out.trans ON2 HB.size)
 clear ON2
 replace HB := bt HB hY
 replace kC := kC.b hY
 replace kE := kE.b hY
 replace kO := kO.b hY
 replace R0 := R0.on hY hY.size
 replace R1 := R1.on hY hY.size
 clear hY
 obtain ⟨D, hD⟩ : ∃ q, couC P = q := ⟨_, rfl⟩
 have hGD : Hid (GoodN D 700002 ∧ D.id = c.id ∧ D.nx = c.nx) := by
  show _ ∧ _
  rw [← hD]
  exact ⟨ref13.good_cou hGP.out.1 (by omega), (cou_id P).trans hGP.out.2.2.1, (ref13.couC_nx P).trans hGP.out.2.2.2⟩
 rw [hD] at R2 hE ⊢
 replace hD := Lh hD
 obtain ⟨ro, hro⟩ : ∃ q, D.ro = q := ⟨_, rfl⟩
 rw [hro] at hE
 replace hro := Lh hro
 go_wp2_with (first | go_skip | refine st_C rfl _ _ rfl D A2 n2 p2 rfl rfl _ kO rfl ?_ | (first | refine lo_Cj kC ?_ | refine lo_cLj kC ?_ | refine lo_cJj kC ?_ | refine lo_Ej kE ?_ | refine lo_Cj kO ?_ | refine lo_cLj kO ?_ | refine lo_cJj kO ?_))
 intro y10 kO2 pO
 replace kC := kC.put pO (Nat.ne_of_lt LTkCkO.out)
 replace kE := kE.put pO (Nat.ne_of_lt LTkEkO.out)
 replace R0 := R0.putS pO NIR0kO.out
 replace R1 := R1.putS pO NIR1kO.out
 replace R2 := R2.putS pO NIR2kO.out
 replace HB := pO.below _ _ HB LEkO.out
 clear kO
 have kO := kO2
 clear kO2 pO
 have cro : y10.cell? ⟨gkO, 1, none⟩ = some (.int .i64 ro) := by rw [← hro.out]; exact kO.cell 1
 by_cases h2 : ro = 2
 ·
  have b2 : (ro == 2) = true := by simp [h2]
  go_wp2_with (first | go_skip | refine lo_Cj kC ?_ | refine lo_cLj kC ?_ | refine lo_cJj kC ?_ | refine lo_Ej kE ?_ | refine lo_Cj kO ?_ | refine lo_cLj kO ?_ | refine lo_cJj kO ?_)
  clear cro
  refine (sendAll_any D A2 n2 p2 y10 y10.heap.size R2 (Nat.le_refl _) hp2 hGD.out.1.1 (by rw [hGD.out.2.1]; exact ⟨HK.out.id1, HK.out.n.2.2.2.1⟩) hGD.out.1.2.2.2.2.1 (fun j j1 j9 => by rw [hGD.out.2.2]; exact HK.out.nx j (by omega))).mono ?_
  rintro e y11 ⟨A9, n9, c9, B9, rfl, hO, hB9, hB8, hY⟩
  have LBhOkC := Lh (Nat.lt_of_lt_of_le kC.lt hB9)
  have LBhOkE := Lh (Nat.lt_of_lt_of_le kE.lt hB9)
  have LBhOkO := Lh (Nat.lt_of_lt_of_le kO.lt hB9)
  have NIRBkO := NIR2kO
  have hB7 := Lh (Nat.le_trans HB.size hB9)
  have RB : RdE y11 B9 _ _ _ := (R2.below hY).more hB9
  have RBz := Lh hB8
  clear hB8 hB9
  replace HB := bt HB hY
  replace kC := kC.b hY
  replace kE := kE.b hY
  replace kO := kO.b hY
  replace R0 := R0.on hY hY.size
  replace R1 := R1.on hY hY.size
  replace R2 := R2.on hY hY.size
  clear hY
  have hE2 := hE.out
  rw [if_pos h2] at hE2
  replace hE2 := Lh hE2
  clear hE
  go_wp2_with (first | go_skip | refine st_C rfl _ _ rfl D A2 n2 p2 rfl rfl _ kO rfl ?_ | (first | refine lo_Cj kC ?_ | refine lo_cLj kC ?_ | refine lo_cJj kC ?_ | refine lo_Ej kE ?_ | refine lo_Cj kO ?_ | refine lo_cLj kO ?_ | refine lo_cJj kO ?_))
  intro y12 kO2 pO
  replace kC := kC.put pO (Nat.ne_of_lt LTkCkO.out)
  replace kE := kE.put pO (Nat.ne_of_lt LTkEkO.out)
  replace R0 := R0.putS pO NIR0kO.out
  replace R1 := R1.putS pO NIR1kO.out
  replace R2 := R2.putS pO NIR2kO.out
  replace hO := hO.put pO LBhOkO.out
  replace RB := RB.putN pO NIRBkO.out
  replace RBz := Lh (Nat.le_trans RBz.out (Nat.le_of_eq pO.size.symm))
  replace HB := pO.below _ _ HB LEkO.out
  clear kO
  have kO := kO2
  clear kO2 pO
  try clear cro
  go_wp2_with (first | go_skip | refine lo_Cj kC ?_ | refine lo_cLj kC ?_ | refine lo_cJj kC ?_ | refine lo_Ej kE ?_ | refine lo_Cj kO ?_ | refine lo_cLj kO ?_ | refine lo_cJj kO ?_)
  (try simp only [Exit.inBlock, Exit.then])
  refine bodyPost_ret (res4 Tryz.results29 rfl rfl rfl rfl (aggC _) (sizeC _) (ldCv kO)) rfl ?_
  rw [hE2.out]
  first | exact ⟨A2, n2, p2, _, B9, rfl, RB, hp2, ON22.out, hO, hB7.out, RBz.out, HB⟩ | exact ⟨A2, n2, p2, _, rfl, B9, RB, hp2, ON22.out, hO, hB7.out, RBz.out, HB⟩
 ·
  have b2 : (ro == 2) = false := by simp [h2]
  have hO := OutL.nil y10 y10.heap.size
  have hB7 := Lh (HB.size)
  have RB := R2
  have RBz := Lh (Nat.le_refl y10.heap.size)
  have LBhOkC := Lh kC.lt
  have LBhOkE := Lh kE.lt
  have LBhOkO := Lh kO.lt
  have NIRBkO := NIR2kO
  obtain ⟨B9, hB9⟩ : ∃ q, y10.heap.size = q := ⟨_, rfl⟩
  rw [hB9] at hO hB7 RB RBz LBhOkC LBhOkE LBhOkO
  replace RBz := Lh (show B9 ≤ y10.heap.size by rw [hB9]; exact Nat.le_refl _)
  clear hB9
  have hE2 := hE.out
  rw [if_neg h2] at hE2
  replace hE2 := Lh hE2
  clear hE
  go_wp2_with (first | go_skip | refine st_C rfl _ _ rfl D A2 n2 p2 rfl rfl _ kO rfl ?_ | (first | refine lo_Cj kC ?_ | refine lo_cLj kC ?_ | refine lo_cJj kC ?_ | refine lo_Ej kE ?_ | refine lo_Cj kO ?_ | refine lo_cLj kO ?_ | refine lo_cJj kO ?_))
  intro y11 kO2 pO
  replace kC := kC.put pO (Nat.ne_of_lt LTkCkO.out)
  replace kE := kE.put pO (Nat.ne_of_lt LTkEkO.out)
  replace R0 := R0.putS pO NIR0kO.out
  replace R1 := R1.putS pO NIR1kO.out
  replace R2 := R2.putS pO NIR2kO.out
  replace hO := hO.put pO LBhOkO.out
  replace RB := RB.putN pO NIRBkO.out
  replace RBz := Lh (Nat.le_trans RBz.out (Nat.le_of_eq pO.size.symm))
  replace HB := pO.below _ _ HB LEkO.out
  clear kO
  have kO := kO2
  clear kO2 pO
  try clear cro
  go_wp2_with (first | go_skip | refine lo_Cj kC ?_ | refine lo_cLj kC ?_ | refine lo_cJj kC ?_ | refine lo_Ej kE ?_ | refine lo_Cj kO ?_ | refine lo_cLj kO ?_ | refine lo_cJj kO ?_)
  (try simp only [Exit.inBlock, Exit.then])
  refine bodyPost_ret (res4 Tryz.results29 rfl rfl rfl rfl (aggC _) (sizeC _) (ldCv kO)) rfl ?_
  rw [hE2.out]
  first | exact ⟨A2, n2, p2, _, B9, rfl, RB, hp2, ON22.out, hO, hB7.out, RBz.out, HB⟩ | exact ⟨A2, n2, p2, _, rfl, B9, RB, hp2, ON22.out, hO, hB7.out, RBz.out, HB⟩
end Go.Proofs.YtegnfkbmlalkeaaGreat.cor
