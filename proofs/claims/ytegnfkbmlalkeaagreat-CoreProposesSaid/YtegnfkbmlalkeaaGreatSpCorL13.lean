/- The landed core: stand. Conditions: those that the theorems name. -/
import Derived.Deep.RegionHeld3
import Derived.Deep.Cut
import Derived.Lib.Hide
import Derived.Test.YtegnfkbmlalkeaaGreatSpKitCl
import Derived.Test.YtegnfkbmlalkeaaGreatSpCorJ13
import Derived.Test.YtegnfkbmlalkeaaGreatSpRef10d
import Derived.Test.YtegnfkbmlalkeaaGreatSpKitLg
import Derived.Test.YtegnfkbmlalkeaaGreatSpJ0
set_option linter.unusedVariables false
set_option maxHeartbeats 16000000
set_option maxRecDepth 10000
namespace Go.Proofs.YtegnfkbmlalkeaaGreat.cor
open Go Go.RowKit kit nums cf lg cr se
def asL (d : CoL) : List Int := listF (lessF (unF (conC d) votF) d.id)
def asT (d : CoL) (l : List Int) (k : Nat) : List MsL := (l.take k).map (fun n => sayF d n (askM d))
theorem asT_next {d : CoL} {l : List Int} {k : Nat} {n : Int} (h : l[k]? = some n) : asT d l (k + 1) = asT d l k ++ [sayF d n (askM d)] := by
 unfold asT; rw [ref9.take_get h, List.map_append]; rfl
theorem asT_len {d : CoL} {l : List Int} {k : Nat} (h : k ≤ l.length) : (asT d l k).length = k := by
 unfold asT; rw [List.length_map, List.length_take]; omega
def stF (c : CoL) : CoL × List MsL := if elJ (conC (standC c)) (standC c).vs then winsF (standC c) else (standC c, ((listF (unF (conC (standC c)) votF)).filter (fun n => !(n == (standC c).id))).map (fun n => sayF (standC c) n (askM (standC c))))
theorem st_win {c : CoL} (h : elJ (conC (standC c)) (standC c).vs = true) : stF c = (winC (standC c), allF (winC (standC c))) := by unfold stF; rw [if_pos h]; rfl
theorem st_ask {c : CoL} (h : elJ (conC (standC c)) (standC c).vs = false) (hi : 1 ≤ c.id ∧ c.id ≤ 9) : stF c = (standC c, asT (standC c) (asL (standC c)) (asL (standC c)).length) := by
 unfold stF asT asL
 rw [if_neg (by rw [h]; decide), less_listI (s := unF (conC (standC c)) votF) (n := (standC c).id) hi, List.take_length]
theorem stand_any (c : CoL) (A : Option Addr) (n p : Nat) (w : World) (B : Nat) (hR : RdE w B A n c.lg.es) (hB : B ≤ w.heap.size) (hp : n ≤ p) (hg : GoodN c 700000) (h1 : 1 ≤ c.id) (hl2 : lastF c.lg ≤ 2199023255550) (ht : 0 ≤ c.tm ∧ c.tm ≤ 1099511627776) : Calls Tryz.prog 61 #[crV c (.slice A n p)] w fun e w' => ∃ A' n' p' v B', e = .returned (.tuple #[crV (stF c).1 (.slice A' n' p'), v]) ∧ RdE w' B' A' n' (stF c).1.lg.es ∧ n' ≤ p' ∧ OldNew w.heap.size A n A' n' ∧ OutL w' B' v (stF c).2 ∧ w.heap.size ≤ B' ∧ B' ≤ w'.heap.size ∧ Below w.heap.size w w' := by
 have hid := Lh (show 1 ≤ c.id ∧ c.id ≤ 9 from ⟨h1, hg.2.2.2.1⟩)
 have hSa := Lh (fun h => st_ask (c := c) h hid.out)
 have hSw := Lh (fun h => st_win (c := c) h)
 obtain ⟨d, hd⟩ : ∃ q, standC c = q := ⟨_, rfl⟩
 have hG : Hid (GoodN d 700000 ∧ d.id = c.id ∧ d.lg = c.lg ∧ d.vs < 65536 ∧ conC d = conC c) := by show _ ∧ _; rw [← hd]; exact ⟨hg, rfl, rfl, withF_lt _ (by omega), rfl⟩
 rw [hd] at hSa hSw
 have hlen := Lh hR.len
 have HJ : Hid ((conC d).ok) := hG.out.1.2.2.2.2.1
 obtain ⟨tm, htm⟩ : ∃ q, c.tm = q := ⟨_, rfl⟩
 rw [htm] at ht
 have w1 : IntKind.i64.wrap (tm + 1) = tm + 1 := by rw [wrap_sm (by omega) (by omega)]
 obtain ⟨el, hel⟩ : ∃ q, elJ (conC d) d.vs = q := ⟨_, rfl⟩
 clear hg
 replace hd := Lh hd
 replace htm := Lh htm
 replace hel := Lh hel
 replace hl2 := Lh hl2
 have R0 := hR.more hB
 clear hR hB
 go_enter Tryz.func61, Tryz.ntmps61
 have NIR0kC := Lh (NotIn.of_rd R0 (Nat.le_refl _))
 have LEkC : Hid (w.heap.size ≤ w.heap.size) := Nat.le_refl _
 go_wp2_with (first | refine box_C rfl _ rfl c (.slice A n p) rfl ?_ | fail)
 intro y1 kC e1 s1
 clear s1
 have HB := e1
 replace R0 := R0.on e1 e1.size
 clear e1
 have LTkCkO := Lh kC.lt
 have NIR0kO := Lh (NotIn.of_rd R0 (Nat.le_refl _))
 have LEkO : Hid (w.heap.size ≤ y1.heap.size) := HB.size
 go_wp2_with (first | refine al_C rfl rfl ?_ | (first | refine lo_Cj kC ?_ | refine lo_cLj kC ?_ | refine lo_cJj kC ?_))
 intro y2 kO e2 s2
 clear s2
 replace kO : Blk _ _ _ (crC zC (.slice none 0 0)) := kO
 replace HB := bt HB e2
 replace kC := kC.b e2
 replace R0 := R0.on e2 e2.size
 clear e2
 generalize y1.heap.size = gkO at *
 have ctm : y2.cell? ⟨w.heap.size, 2, none⟩ = some (.int .i64 tm) := by rw [← htm.out]; exact kC.cell 2
 have df := fun i => kC.frozen i
 go_upto_region 2 with (fail)
 clear df ctm
 have kC2 : Blk 33 _ w.heap.size (crC { c with tm := tm + 1 } (.slice A n p)) := kC.set_ 2 (.int .i64 (tm + 1))
 have pO := put_set y2 w.heap.size (2) (.int .i64 (tm + 1))
 generalize (y2.setCell ⟨w.heap.size, 2, none⟩ (.int .i64 (tm + 1))) = y3 at *
 replace kO := kO.put pO (Nat.ne_of_gt LTkCkO.out)
 replace R0 := R0.putS pO NIR0kC.out
 replace HB := pO.below _ _ HB LEkC.out
 clear kC
 have kC := kC2
 clear kC2 pO
 obtain ⟨vz, hvz⟩ : ∃ q, withF 0 c.id = q := ⟨_, rfl⟩
 replace hvz := Lh hvz
 go_upto_region 2 with (first | refine lo_Cj kC ?_ | refine lo_cLj kC ?_ | refine lo_cJj kC ?_ | refine lo_Cj kO ?_ | refine lo_cLj kO ?_ | refine lo_cJj kO ?_)
 refine wp_region_held_drew (S := fun wq => wq.cell? ⟨w.heap.size, 0, none⟩ = some (.int .i64 c.id)) (by kernel_rfl) ?s_std2 (fun hHeld => ?_)
 case s_std2 => exact kC.cell 0
 have hD := (Below.refl y3.heap.size y3).drew
 replace HB := bt HB hD
 replace kC := kC.b hD
 replace kO := kO.b hD
 replace R0 := R0.on hD hD.size
 clear hD
 generalize y3.drew = y4 at *
 iterate 4 (refine tx 0 _ ?_; try simp only [Act.put, ka, kb, kc])
 refine tj 5 _ ?_
 try simp only [Act.put, ka, kb, kc]
 refine rr [4] ?_
 refine rc (fun KQ hKQ => ?_) AllReadyH.nil
 go_simp
 have CC := seti.with_any 0 c.id y4 (by omega) (by have := hid.out; omega) (by have := hid.out; omega)
 rw [hvz.out] at CC
 refine (CC).mono ?_
 rintro e y5 ⟨rfl, hY⟩
 replace HB := bt HB hY
 replace kC := kC.b hY
 replace kO := kO.b hY
 replace R0 := R0.on hY hY.size
 clear hY
 clear CC
 go_wp2_with fail
 refine hKQ.out _ _ (kC.cell 0) (fun _ => ?_)
 clear hKQ KQ
 try simp only [Act.put, ka, kb, kc]
 refine rr [6] ?_
 refine rc (fun KQ hKQ => ?_) AllReadyH.nil
 have df := fun i => kC.frozen i
 have cR : _ = some _ := kC.cell 1
 go_simp
 clear df cR
 have kC2 : Blk 33 _ w.heap.size (crC { c with tm := tm + 1, ro := 1 } (.slice A n p)) := kC.set_ 1 (.int .i64 1)
 have pO := put_set y5 w.heap.size (1) (.int .i64 1)
 generalize (y5.setCell ⟨w.heap.size, 1, none⟩ (.int .i64 1)) = y6 at *
 replace kO := kO.put pO (Nat.ne_of_gt LTkCkO.out)
 replace R0 := R0.putS pO NIR0kC.out
 replace HB := pO.below _ _ HB LEkC.out
 clear kC
 have kC := kC2
 clear kC2 pO
 refine hKQ.out _ _ (kC.cell 0) (fun _ => ?_)
 clear hKQ KQ
 try simp only [Act.put]
 refine tj 7 _ ?_
 try simp only [Act.put, ka, kb, kc]
 refine rr [8] ?_
 refine rc (fun KQ hKQ => ?_) AllReadyH.nil
 have df := fun i => kC.frozen i
 have cR : _ = some _ := kC.cell 3
 go_simp
 clear df cR
 have kC2 : Blk 33 _ w.heap.size (crC { c with tm := tm + 1, ro := 1, vo := c.id } (.slice A n p)) := kC.set_ 3 (.int .i64 c.id)
 have pO := put_set y6 w.heap.size (3) (.int .i64 c.id)
 generalize (y6.setCell ⟨w.heap.size, 3, none⟩ (.int .i64 c.id)) = y7 at *
 replace kO := kO.put pO (Nat.ne_of_gt LTkCkO.out)
 replace R0 := R0.putS pO NIR0kC.out
 replace HB := pO.below _ _ HB LEkC.out
 clear kC
 have kC := kC2
 clear kC2 pO
 refine hKQ.out _ _ (kC.cell 0) (fun _ => ?_)
 clear hKQ KQ
 try simp only [Act.put]
 refine tj 9 _ ?_
 try simp only [Act.put, ka, kb, kc]
 refine rr [10] ?_
 refine rc (fun KQ hKQ => ?_) AllReadyH.nil
 have df := fun i => kC.frozen i
 have cR : _ = some _ := kC.cell 23
 go_simp
 clear df cR
 have kC2 : Blk 33 _ w.heap.size (crC { c with tm := tm + 1, ro := 1, vo := c.id, vs := vz } (.slice A n p)) := kC.set_ 23 (.int .u16 ((vz : Nat) : Int))
 have pO := put_set y7 w.heap.size (23) (.int .u16 ((vz : Nat) : Int))
 generalize (y7.setCell ⟨w.heap.size, 23, none⟩ (.int .u16 ((vz : Nat) : Int))) = y8 at *
 replace kO := kO.put pO (Nat.ne_of_gt LTkCkO.out)
 replace R0 := R0.putS pO NIR0kC.out
 replace HB := pO.below _ _ HB LEkC.out
 clear kC
 have kC := kC2
 clear kC2 pO
 refine hKQ.out _ _ (kC.cell 0) (fun _ => ?_)
 clear hKQ KQ
 try simp only [Act.put]
 refine tj 11 _ ?_
 try simp only [Act.put, ka, kb, kc]
 refine rr [12] ?_
 refine rc (fun KQ hKQ => ?_) AllReadyH.nil
 have df := fun i => kC.frozen i
 have cR : _ = some _ := kC.cell 4
 go_simp
 clear df cR
 have kC2 : Blk 33 _ w.heap.size (crC { c with tm := tm + 1, ro := 1, vo := c.id, vs := vz, le := 0 } (.slice A n p)) := kC.set_ 4 (.int .i64 0)
 have pO := put_set y8 w.heap.size (4) (.int .i64 0)
 generalize (y8.setCell ⟨w.heap.size, 4, none⟩ (.int .i64 0)) = y9 at *
 replace kO := kO.put pO (Nat.ne_of_gt LTkCkO.out)
 replace R0 := R0.putS pO NIR0kC.out
 replace HB := pO.below _ _ HB LEkC.out
 clear kC
 have kC := kC2
 clear kC2 pO
 refine hKQ.out _ _ (kC.cell 0) (fun _ => ?_)
 clear hKQ KQ
 try simp only [Act.put]
 refine tj 13 _ ?_
 try simp only [Act.put, ka, kb, kc]
 refine rr [14] ?_
 refine rc (fun KQ hKQ => ?_) AllReadyH.nil
 have df := fun i => kC.frozen i
 have cR : _ = some _ := kC.cell 5
 go_simp
 clear df cR
 have kC2 : Blk 33 _ w.heap.size (crC { c with tm := tm + 1, ro := 1, vo := c.id, vs := vz, le := 0, wa := 0 } (.slice A n p)) := kC.set_ 5 (.int .i64 0)
 have pO := put_set y9 w.heap.size (5) (.int .i64 0)
 generalize (y9.setCell ⟨w.heap.size, 5, none⟩ (.int .i64 0)) = y10 at *
 replace kO := kO.put pO (Nat.ne_of_gt LTkCkO.out)
 replace R0 := R0.putS pO NIR0kC.out
 replace HB := pO.below _ _ HB LEkC.out
 clear kC
 have kC := kC2
 clear kC2 pO
 refine hKQ.out _ _ (kC.cell 0) (fun _ => ?_)
 clear hKQ KQ
 try simp only [Act.put]
 refine wpAnyH_done (by kernel_rfl) ?_ _
 have hdE : { c with tm := tm + 1, ro := 1, vo := c.id, vs := vz, le := 0, wa := 0 } = d := by rw [← hd.out, ← htm.out, ← hvz.out]; rfl
 rw [hdE] at kC
 clear hdE w1
 rw [← hG.out.2.2.1] at R0
 go_wp2_with (first | refine lo_Cj kC ?_ | refine lo_cLj kC ?_ | refine lo_cJj kC ?_ | refine lo_Cj kO ?_ | refine lo_cLj kO ?_ | refine lo_cJj kO ?_)
 have CC := enti.conf_any d.lg A n p y10 y10.heap.size R0 (Nat.le_refl _) hp hG.out.1.1
 refine (CC).mono ?_
 rintro e y11 ⟨rfl, hY⟩
 replace HB := bt HB hY
 replace kC := kC.b hY
 replace kO := kO.b hY
 replace R0 := R0.on hY hY.size
 clear hY
 clear CC
 have LTkCkJ := Lh kC.lt
 have LTkOkJ := Lh kO.lt
 have NIR0kJ := Lh (NotIn.of_rd R0 (Nat.le_refl _))
 have LEkJ : Hid (w.heap.size ≤ y11.heap.size) := HB.size
 go_wp2_with (first | refine al_J rfl rfl ?_ | (first | refine lo_Cj kC ?_ | refine lo_cLj kC ?_ | refine lo_cJj kC ?_ | refine lo_Cj kO ?_ | refine lo_cLj kO ?_ | refine lo_cJj kO ?_))
 intro y12 kJ e12 s12
 clear s12
 replace kJ : Blk _ _ _ (jC zeroJ) := kJ
 replace HB := bt HB e12
 replace kC := kC.b e12
 replace kO := kO.b e12
 replace R0 := R0.on e12 e12.size
 clear e12
 generalize y11.heap.size = gkJ at *
 go_wp2_with (first | refine st_Jv rfl _ _ rfl (conC d) rfl rfl _ kJ rfl ?_ | (first | refine lo_Cj kC ?_ | refine lo_cLj kC ?_ | refine lo_cJj kC ?_ | refine lo_Cj kO ?_ | refine lo_cLj kO ?_ | refine lo_cJj kO ?_ | refine lo_Jj kJ ?_))
 intro y13 kJ2 pO
 replace kC := kC.put pO (Nat.ne_of_lt LTkCkJ.out)
 replace kO := kO.put pO (Nat.ne_of_lt LTkOkJ.out)
 replace R0 := R0.putS pO NIR0kJ.out
 replace HB := pO.below _ _ HB LEkJ.out
 clear kJ
 have kJ := kJ2
 clear kJ2 pO
 have cvs : y13.cell? ⟨w.heap.size, 23, none⟩ = some (.int .u16 (d.vs : Int)) := kC.cell 23
 go_wp2_with (first | refine lo_Cj kC ?_ | refine lo_cLj kC ?_ | refine lo_cJj kC ?_ | refine lo_Cj kO ?_ | refine lo_cLj kO ?_ | refine lo_cJj kO ?_ | refine lo_Jj kJ ?_)
 have CC := confi.elects_any (conC d) d.vs y13 HJ.out hG.out.2.2.2.1
 rw [hel.out] at CC
 refine (CC).mono ?_
 rintro e y14 ⟨rfl, hY⟩
 replace HB := bt HB hY
 replace kC := kC.b hY
 replace kO := kO.b hY
 replace kJ := kJ.b hY
 replace R0 := R0.on hY hY.size
 clear hY
 clear CC cvs
 rcases el with _ | _
 rotate_left
 ·
  have hE := Lh (hSw.out hel.out)
  go_wp2_with (first | refine lo_Cj kC ?_ | refine lo_cLj kC ?_ | refine lo_cJj kC ?_ | refine lo_Cj kO ?_ | refine lo_cLj kO ?_ | refine lo_cJj kO ?_ | refine lo_Jj kJ ?_)
  refine (win_any d A n p y14 y14.heap.size R0 (Nat.le_refl _) hp hG.out.1 (by rw [hG.out.2.1]; exact hid.out.1) (by rw [hG.out.2.2.1]; exact hl2.out)).mono ?_
  rintro e y15 ⟨A9, n9, p9, v9, B9, rfl, RB, hp9, ON9, hO, hB9, hB8, hY⟩
  have NIRBkO := Lh (NIR0kO.out.next ON9 kO.lt)
  have LBhOkO := Lh (Nat.lt_of_lt_of_le kO.lt hB9)
  have ON92 := Lh ((OldNew.refl w.heap.size A n).trans ON9 HB.size)
  clear ON9
  have hB7 := Lh (Nat.le_trans HB.size hB9)
  have RBz := Lh hB8
  clear hB8 hB9
  replace HB := bt HB hY
  replace kC := kC.b hY
  replace kO := kO.b hY
  replace kJ := kJ.b hY
  replace R0 := R0.on hY hY.size
  clear hY
  go_wp2_with (first | refine st_C rfl _ _ rfl (winC d) A9 n9 p9 rfl rfl _ kO rfl ?_ | (first | refine lo_Cj kC ?_ | refine lo_cLj kC ?_ | refine lo_cJj kC ?_ | refine lo_Cj kO ?_ | refine lo_cLj kO ?_ | refine lo_cJj kO ?_ | refine lo_Jj kJ ?_))
  intro y16 kO2 pO
  replace kC := kC.put pO (Nat.ne_of_lt LTkCkO.out)
  replace kJ := kJ.put pO (Nat.ne_of_gt LTkOkJ.out)
  replace R0 := R0.putS pO NIR0kO.out
  replace hO := hO.put pO LBhOkO.out
  replace RB := RB.putN pO NIRBkO.out
  replace RBz := Lh (Nat.le_trans RBz.out (Nat.le_of_eq pO.size.symm))
  replace HB := pO.below _ _ HB LEkO.out
  clear kO
  have kO := kO2
  clear kO2 pO
  go_wp2_with (first | refine lo_Cj kC ?_ | refine lo_cLj kC ?_ | refine lo_cJj kC ?_ | refine lo_Cj kO ?_ | refine lo_cLj kO ?_ | refine lo_cJj kO ?_ | refine lo_Jj kJ ?_)
  (try simp only [Exit.inBlock, Exit.then])
  refine bodyPost_ret (res2 Tryz.results61 rfl rfl (aggC _) (sizeC _) (ldCv kO)) rfl ?_
  rw [hE.out]
  exact ⟨A9, n9, p9, v9, B9, rfl, RB, hp9, ON92.out, hO, hB7.out, RBz.out, HB⟩
 have hE := Lh (hSa.out hel.out)
 clear hSa hSw
 have HL := Lh (fun z (hz : z ∈ asL d) => ref9.list_node hz)
 have hl9 := ref9.list_len (lessF (unF (conC d) votF) d.id)
 have hvl := Lh (un_lt (vot_lt HJ.out.1) (vot_lt HJ.out.2))
 obtain ⟨l, hl⟩ : ∃ q, asL d = q := ⟨_, rfl⟩
 rw [hl] at HL hE
 rw [show listF (lessF (unF (conC d) votF) d.id) = l from hl] at hl9
 obtain ⟨N, hN⟩ : ∃ q, l.length = q := ⟨_, rfl⟩
 rw [hN] at hl9 hE
 replace hl := Lh hl
 replace hN := Lh hN
 go_upto_region 7 with (first | refine lo_Cj kC ?_ | refine lo_cLj kC ?_ | refine lo_cJj kC ?_ | refine lo_Cj kO ?_ | refine lo_cLj kO ?_ | refine lo_cJj kO ?_ | refine lo_Jj kJ ?_)
 refine wp_region_held_drew (S := fun wq => Blk 33 wq w.heap.size (crC d (.slice A n p)) ∧ Blk 27 wq gkJ (jC (conC d))) (by kernel_rfl) ?s_std7 (fun hHeld => ?_)
 case s_std7 => exact ⟨kC, kJ⟩
 have hD := (Below.refl y14.heap.size y14).drew
 replace HB := bt HB hD
 replace kC := kC.b hD
 replace kO := kO.b hD
 replace kJ := kJ.b hD
 replace R0 := R0.on hD hD.size
 clear hD
 generalize y14.drew = y15 at *
 refine tj 0 _ ?_ (hy := fun wq hSw => rld_C rfl rfl (And.left hSw))
 try simp only [Act.put, ka, kb, kc]
 refine tj 1 _ ?_ (hy := fun wq hSw => rld_J rfl rfl (And.right hSw))
 try simp only [Act.put, ka, kb, kc]
 refine tj 5 _ ?_
 try simp only [Act.put, ka, kb, kc]
 refine rr [2] ?_
 refine rc (fun KQ hKQ => ?_) AllReadyH.nil
 go_simp
 have CC := confi.votingJ_any (conC d) y15 HJ.out
 refine (CC).mono ?_
 rintro e y16 ⟨rfl, hY⟩
 replace HB := bt HB hY
 replace kC := kC.b hY
 replace kO := kO.b hY
 replace kJ := kJ.b hY
 replace R0 := R0.on hY hY.size
 clear hY
 clear CC
 go_wp2_with fail
 refine hKQ.out _ _ (⟨kC, kJ⟩) (fun _ => ?_)
 clear hKQ KQ
 try simp only [Act.put, ka, kb, kc]
 refine rr [3] ?_
 refine rc (fun KQ hKQ => ?_) AllReadyH.nil
 go_simp
 have CC := others_any d A n p (unF (conC d) votF) y16 hvl.out (by have := hid.out; rw [hG.out.2.1]; omega)
 rw [show listF (lessF (unF (conC d) votF) d.id) = l from hl.out, hN.out] at CC
 refine CC.mono ?_
 rintro e y17 ⟨A5, c5, rfl, hR5, hY⟩
 clear CC
 replace HB := bt HB hY
 replace kC := kC.b hY
 replace kO := kO.b hY
 replace kJ := kJ.b hY
 replace R0 := R0.on hY hY.size
 clear hY
 replace hR5 := Lh hR5
 go_wp2_with fail
 refine hKQ.out _ _ (⟨kC, kJ⟩) (fun _ => ?_)
 clear hKQ KQ
 try simp only [Act.put, ka, kb, kc]
 refine tj 4 _ ?_
 try simp only [Act.put, ka, kb, kc]
 refine wpAnyH_done (by kernel_rfl) ?_ _
 have BkC := Lh kC
 clear kC
 have BkO := Lh kO
 clear kO
 have BkJ := Lh kJ
 clear kJ
 have BR0 := Lh R0
 clear R0
 have BH := Lh HB
 clear HB
 have BY := hR5
 clear hR5
 go_wp2_with fail
 go_loopw [5, 39] (fun sv iv wr => ∃ (k : Nat) (A6 : Option Addr) (c6 : Nat), k ≤ N ∧ sv = .slice A6 k c6 ∧ iv = .int .i64 (k : Int) ∧ Hid (Below y17.heap.size y17 wr) ∧ Hid (OutL wr y17.heap.size (.slice A6 k c6) (asT d l k))) (fun _ iv _ => N - (intOf iv).toNat)
 case atStart => exact ⟨0, none, 0, by omega, rfl, rfl, Lh (Below.refl _ _), Lh (OutL.nil _ _)⟩
 case round =>
  obtain ⟨k, A6, c6, hk, rfl, rfl, HY, HO⟩ := hrel
  by_cases hkN : k < N
  ·
   have kC := BkC.out.below HY.out BkC.out.lt
   have kO := BkO.out.below HY.out BkO.out.lt
   have kJ := BkJ.out.below HY.out BkJ.out.lt
   have R0 := BR0.out.on HY.out HY.out.size
   have HB := HY.out
   have ck : (k : Int) < (N : Int) := by omega
   have c0k : (0 : Int) ≤ (k : Int) := by omega
   have wk : IntKind.i64.wrap ((k : Int) + 1) = ((k + 1 : Nat) : Int) := by rw [wrap_sm (by omega) (by omega)]; omega
   have hR5 := BY.out.below HY.out
   obtain ⟨pl, ol, z, hA5, hz, cz⟩ := ref9.rdv_at hR5 k hkN
   subst hA5
   have hlk : Hid ((asT d l k).length = k) := asT_len (by rw [hN.out]; omega)
   replace hz := Lh hz
   clear hR5 HB
   go_wp2_with (first | refine lo_Cj kC ?_ | refine lo_cLj kC ?_ | refine lo_cJj kC ?_ | refine lo_Cj kO ?_ | refine lo_cLj kO ?_ | refine lo_cJj kO ?_ | refine lo_Jj kJ ?_)
   clear cz
   refine (letter_any d A n p 1 z wr).mono ?_
   rintro e y51 ⟨rfl, hY⟩
   have HB := hY
   replace kC := kC.b hY
   replace kO := kO.b hY
   replace kJ := kJ.b hY
   replace R0 := R0.on hY hY.size
   clear hY
   have LTkCkM := Lh kC.lt
   have LTkOkM := Lh kO.lt
   have LTkJkM := Lh kJ.lt
   have NIR0kM := Lh (NotIn.of_rd R0 (Nat.le_refl _))
   have LEkM : Hid (wr.heap.size ≤ y51.heap.size) := HB.size
   go_wp2_with (first | refine al_M rfl rfl ?_ | (first | refine lo_Cj kC ?_ | refine lo_cLj kC ?_ | refine lo_cJj kC ?_ | refine lo_Cj kO ?_ | refine lo_cLj kO ?_ | refine lo_cJj kO ?_ | refine lo_Jj kJ ?_))
   intro y52 kM e52 s52
   clear s52
   replace kM : Blk _ _ _ (msC zM (.slice none 0 0)) := kM
   replace HB := bt HB e52
   replace kC := kC.b e52
   replace kO := kO.b e52
   replace kJ := kJ.b e52
   replace R0 := R0.on e52 e52.size
   clear e52
   generalize y51.heap.size = gkM at *
   go_wp2_with (first | refine st_M rfl _ _ rfl (letM d 1 z) none 0 0 rfl rfl _ kM rfl ?_ | (first | refine lo_Cj kC ?_ | refine lo_cLj kC ?_ | refine lo_cJj kC ?_ | refine lo_Cj kO ?_ | refine lo_cLj kO ?_ | refine lo_cJj kO ?_ | refine lo_Jj kJ ?_ | refine lo_Mj kM ?_ | refine lo_mJj kM ?_))
   intro y53 kM2 pO
   replace kC := kC.put pO (Nat.ne_of_lt LTkCkM.out)
   replace kO := kO.put pO (Nat.ne_of_lt LTkOkM.out)
   replace kJ := kJ.put pO (Nat.ne_of_lt LTkJkM.out)
   replace R0 := R0.putS pO NIR0kM.out
   replace HB := pO.below _ _ HB LEkM.out
   clear kM
   have kM := kM2
   clear kM2 pO
   obtain ⟨la, hla⟩ : ∃ q, lastF d.lg = q := ⟨_, rfl⟩
   obtain ⟨lt, hlt⟩ : ∃ q, (termF d.lg (lastF d.lg)).1 = q := ⟨_, rfl⟩
   replace hla := Lh hla
   replace hlt := Lh hlt
   go_upto_region 11 with (first | refine lo_Cj kC ?_ | refine lo_cLj kC ?_ | refine lo_cJj kC ?_ | refine lo_Cj kO ?_ | refine lo_cLj kO ?_ | refine lo_cJj kO ?_ | refine lo_Jj kJ ?_ | refine lo_Mj kM ?_ | refine lo_mJj kM ?_)
   refine wp_region_held_drew (S := fun wq => Blk 33 wq w.heap.size (crC d (.slice A n p)) ∧ wq.cell? ⟨w.heap.size, 6, none⟩ = some (.int .i64 d.cm)) (by kernel_rfl) ?s_std11 (fun hHeld => ?_)
   case s_std11 => exact ⟨kC, kC.cell 6⟩
   have hD := (Below.refl y53.heap.size y53).drew
   replace HB := bt HB hD
   replace kC := kC.b hD
   replace kO := kO.b hD
   replace kJ := kJ.b hD
   replace kM := kM.b hD
   replace R0 := R0.on hD hD.size
   clear hD
   generalize y53.drew = y54 at *
   refine tj 0 _ ?_
   try simp only [Act.put, ka, kb, kc]
   refine tj 1 _ ?_ (hy := fun wq hSw => rld_cL rfl rfl (And.left hSw))
   try simp only [Act.put, ka, kb, kc]
   refine tj 3 _ ?_
   try simp only [Act.put, ka, kb, kc]
   refine tj 4 _ ?_ (hy := fun wq hSw => rld_cL rfl rfl (And.left hSw))
   try simp only [Act.put, ka, kb, kc]
   iterate 2 (refine tx 6 _ ?_; try simp only [Act.put, ka, kb, kc])
   refine rr [2] ?_
   refine rc (fun KQ hKQ => ?_) AllReadyH.nil
   go_simp
   have CC := enti.last_any d.lg A n p y54 (by rw [hG.out.2.2.1]; exact hlen.out) hG.out.1.1
   rw [hla.out] at CC
   refine (CC).mono ?_
   rintro e y55 ⟨rfl, hY⟩
   replace HB := bt HB hY
   replace kC := kC.b hY
   replace kO := kO.b hY
   replace kJ := kJ.b hY
   replace kM := kM.b hY
   replace R0 := R0.on hY hY.size
   clear hY
   clear CC
   go_wp2_with fail
   refine hKQ.out _ _ (⟨kC, kC.cell 6⟩) (fun _ => ?_)
   clear hKQ KQ
   try simp only [Act.put, ka, kb, kc]
   refine tj 8 _ ?_
   try simp only [Act.put, ka, kb, kc]
   refine rr [5] ?_
   refine rc (fun KQ hKQ => ?_) AllReadyH.nil
   go_simp
   have CC := lastTerm_any d.lg A n p y55 y55.heap.size R0 (Nat.le_refl _) hp hG.out.1.1
   rw [hlt.out] at CC
   refine (CC).mono ?_
   rintro e y56 ⟨rfl, hY⟩
   replace HB := bt HB hY
   replace kC := kC.b hY
   replace kO := kO.b hY
   replace kJ := kJ.b hY
   replace kM := kM.b hY
   replace R0 := R0.on hY hY.size
   clear hY
   clear CC
   go_wp2_with fail
   refine hKQ.out _ _ (⟨kC, kC.cell 6⟩) (fun _ => ?_)
   clear hKQ KQ
   try simp only [Act.put, ka, kb, kc]
   refine rr [9] ?_
   refine rc (fun KQ hKQ => ?_) AllReadyH.nil
   have df := fun i => kM.frozen i
   have cR : _ = some _ := kM.cell 4
   go_simp
   clear df cR
   have kM2 : Blk 49 _ gkM (msC { letM d 1 z with i := la } (.slice none 0 0)) := kM.set_ 4 (.int .i64 la)
   have pO := put_set y56 gkM (4) (.int .i64 la)
   generalize (y56.setCell ⟨gkM, 4, none⟩ (.int .i64 la)) = y57 at *
   replace kC := kC.put pO (Nat.ne_of_lt LTkCkM.out)
   replace kO := kO.put pO (Nat.ne_of_lt LTkOkM.out)
   replace kJ := kJ.put pO (Nat.ne_of_lt LTkJkM.out)
   replace R0 := R0.putS pO NIR0kM.out
   replace HB := pO.below _ _ HB LEkM.out
   clear kM
   have kM := kM2
   clear kM2 pO
   refine hKQ.out _ _ (⟨kC, kC.cell 6⟩) (fun _ => ?_)
   clear hKQ KQ
   try simp only [Act.put]
   refine tj 10 _ ?_
   try simp only [Act.put, ka, kb, kc]
   refine rr [11] ?_
   refine rc (fun KQ hKQ => ?_) AllReadyH.nil
   have df := fun i => kM.frozen i
   have cR : _ = some _ := kM.cell 5
   go_simp
   clear df cR
   have kM2 : Blk 49 _ gkM (msC { letM d 1 z with i := la, lt := lt } (.slice none 0 0)) := kM.set_ 5 (.int .i64 lt)
   have pO := put_set y57 gkM (5) (.int .i64 lt)
   generalize (y57.setCell ⟨gkM, 5, none⟩ (.int .i64 lt)) = y58 at *
   replace kC := kC.put pO (Nat.ne_of_lt LTkCkM.out)
   replace kO := kO.put pO (Nat.ne_of_lt LTkOkM.out)
   replace kJ := kJ.put pO (Nat.ne_of_lt LTkJkM.out)
   replace R0 := R0.putS pO NIR0kM.out
   replace HB := pO.below _ _ HB LEkM.out
   clear kM
   have kM := kM2
   clear kM2 pO
   refine hKQ.out _ _ (⟨kC, kC.cell 6⟩) (fun _ => ?_)
   clear hKQ KQ
   try simp only [Act.put]
   refine tj 12 _ ?_
   try simp only [Act.put, ka, kb, kc]
   refine rr [13] ?_
   refine rc (fun KQ hKQ => ?_) AllReadyH.nil
   have df := fun i => kM.frozen i
   have cR : _ = some _ := kM.cell 6
   go_simp
   clear df cR
   have kM2 : Blk 49 _ gkM (msC { letM d 1 z with i := la, lt := lt, c := d.cm } (.slice none 0 0)) := kM.set_ 6 (.int .i64 d.cm)
   have pO := put_set y58 gkM (6) (.int .i64 d.cm)
   generalize (y58.setCell ⟨gkM, 6, none⟩ (.int .i64 d.cm)) = y59 at *
   replace kC := kC.put pO (Nat.ne_of_lt LTkCkM.out)
   replace kO := kO.put pO (Nat.ne_of_lt LTkOkM.out)
   replace kJ := kJ.put pO (Nat.ne_of_lt LTkJkM.out)
   replace R0 := R0.putS pO NIR0kM.out
   replace HB := pO.below _ _ HB LEkM.out
   clear kM
   have kM := kM2
   clear kM2 pO
   refine hKQ.out _ _ (⟨kC, kC.cell 6⟩) (fun _ => ?_)
   clear hKQ KQ
   try simp only [Act.put]
   refine wpAnyH_done (by kernel_rfl) ?_ _
   have hME : { letM d 1 z with i := la, lt := lt, c := d.cm } = sayF d z (askM d) := by rw [← hla.out, ← hlt.out]; rfl
   rw [hME] at kM
   clear hME
   go_wp2_with (first | refine kit.bs_M rfl _ rfl (sayF d z (askM d)) none 0 0 rfl ?_ | (first | refine lo_Cj kC ?_ | refine lo_cLj kC ?_ | refine lo_cJj kC ?_ | refine lo_Cj kO ?_ | refine lo_cLj kO ?_ | refine lo_cJj kO ?_ | refine lo_Jj kJ ?_ | refine lo_Mj kM ?_ | refine lo_mJj kM ?_))
   intro y60 kB hX
   replace HB := bt HB hX
   replace kC := kC.b hX
   replace kO := kO.b hX
   replace kJ := kJ.b hX
   replace kM := kM.b hX
   replace R0 := R0.on hX hX.size
   clear hX
   have hO := HO.out.below HB
   have HBy := HY.out.trans (HB.mono HY.out.size)
   go_wp2_with (at_builtin; refine kit.app_M rfl (.tmp 57) (.tmp 59) rfl y17.heap.size A6 k c6 _ rfl y59.heap.size rfl hlk.out hO (sayF d z (askM d)) none 0 0 kB (OwnE.nil _ _) (by omega) HBy.size ?_)
   intro A8 c8 y61 hO2 hB2
   have HB2 := Lh (HBy.trans hB2)
   have hO3 := Lh hO2
   clear hO hO2 hB2 HB HBy kB kC kO kJ kM R0
   go_wp2_with fail
   go_roundw
   case rel => exact ⟨k + 1, A8, c8, by omega, rfl, rfl, HB2, Lh (by rw [asT_next hz.out]; exact hO3.out)⟩
   case measure => simp only [intOf]; omega
  ·
   have kC := BkC.out.below HY.out BkC.out.lt
   have kO := BkO.out.below HY.out BkO.out.lt
   have kJ := BkJ.out.below HY.out BkJ.out.lt
   have R0 := BR0.out.on HY.out HY.out.size
   have HB := HY.out
   obtain rfl : k = N := by omega
   have ck : ¬ ((k : Int) < (k : Int)) := by omega
   have hO := HO.out
   have hLO : Hid (gkO < y17.heap.size) := BkO.out.lt
   have RB := BR0.out.below HY.out
   have HBt := BH.out.trans (HB.mono BH.out.size)
   have hB7 := Lh BH.out.size
   have RBz := Lh HB.size
   clear HB HO
   go_wp2_with (first | refine st_C rfl _ _ rfl d A n p rfl rfl _ kO rfl ?_ | (first | refine lo_Cj kC ?_ | refine lo_cLj kC ?_ | refine lo_cJj kC ?_ | refine lo_Cj kO ?_ | refine lo_cLj kO ?_ | refine lo_cJj kO ?_ | refine lo_Jj kJ ?_))
   intro y101 kO2 pO
   replace hO := hO.put pO hLO.out
   replace RB := RB.putN pO NIR0kO.out
   have HB := pO.below _ _ HBt LEkO.out
   replace RBz := Lh (Nat.le_trans RBz.out (Nat.le_of_eq pO.size.symm))
   go_wp2_with (first | refine lo_Cj kC ?_ | refine lo_cLj kC ?_ | refine lo_cJj kC ?_ | refine lo_Cj kO ?_ | refine lo_cLj kO ?_ | refine lo_cJj kO ?_ | refine lo_Jj kJ ?_)
   (try simp only [Exit.inBlock, Exit.then])
   refine bodyPost_ret (res2 Tryz.results61 rfl rfl (aggC _) (sizeC _) (ldCv kO2)) rfl ?_
   rw [hE.out]
   exact ⟨A, n, p, _, _, rfl, RB, hp, OldNew.refl _ _ _, hO, hB7.out, RBz.out, HB⟩
end Go.Proofs.YtegnfkbmlalkeaaGreat.cor
