/- The document's entries: Compact. Conditions: the log's numbers stay far from the ends of an int. -/
import Derived.Deep.RegionHeld3
import Derived.Deep.Cut
import Derived.Lib.Hide
import Derived.Test.YtegnfkbmlalkeaaGreatSpRefE12
import Derived.Test.YtegnfkbmlalkeaaGreatSpJ1
import Derived.Test.YtegnfkbmlalkeaaGreatSpKitLg
import Derived.Test.YtegnfkbmlalkeaaGreatSpJ0
set_option linter.unusedVariables false
set_option maxHeartbeats 16000000
set_option maxRecDepth 10000
namespace Go.Proofs.YtegnfkbmlalkeaaGreat.ref12
open Go Go.RowKit kit nums cf lg
theorem rcompact2_any (L : LgL) (A : Option Addr) (n c : Nat) (zt : Int) (w : World) (B : Nat) (hR : RdE w B A n L.es) (hB : B ≤ w.heap.size) (hc : n ≤ c) (hf : Fit L) : Calls Tryz.prog 96 #[lgV L (.slice A n c), .int .i64 zt] w fun e w' => ∃ A' n' c', e = .returned (.tuple #[lgV (compactF L zt).1 (.slice A' n' c'), .int .i64 (compactF L zt).2]) ∧ n' = (compactF L zt).1.es.length ∧ RdE w' w'.heap.size A' n' (compactF L zt).1.es ∧ n' ≤ c' ∧ Below w.heap.size w w' ∧ OwnE w' w.heap.size (.slice A' n' c') (compactF L zt).1.es := by
 have HR := Lh hR
 have hBs := Lh hB
 have HF := Lh hf
 have hlh := Lh hR.1
 have hlast : lastF L = L.b + (n : Int) := by unfold lastF; rw [hR.1]
 have f0 := hf.1
 have f1 := hf.2.1
 have f2 := hf.2.2
 rw [hR.1] at f2
 have hIs := termF_is L zt
 rw [hlast] at hIs
 replace hIs := Lh hIs
 replace hlast := Lh hlast
 have R0 := hR.more hB
 clear hR hB hf
 go_enter Tryz.func96, Tryz.ntmps96
 go_wp2_with (refine box_L rfl _ rfl L (.slice A n c) rfl ?_)
 intro y1 kL e1 s1
 clear s1
 have HB := e1
 replace R0 := R0.on e1 e1.size
 clear e1
 go_wp2_with (first | refine al_L rfl rfl ?_ | (first | refine lo_Lj kL ?_))
 intro y2 kR e2 s2
 clear s2
 replace kR : Blk _ _ _ (lgC zL (.slice none 0 0)) := kR
 have LTkLkR := Lh kL.lt
 replace HB := bt HB e2
 replace kL := kL.b e2
 replace R0 := R0.on e2 e2.size
 clear e2
 generalize y1.heap.size = gkR at *
 go_wp2_with (first | refine lo_Lj kL ?_ | refine lo_Lj kR ?_)
 have CC := rterm_any L A n c zt y2 y2.heap.size R0 (Nat.le_refl _) hc HF.out
 obtain ⟨tv, htv⟩ : ∃ z, (termF L zt).1 = z := ⟨_, rfl⟩
 obtain ⟨tb, htb⟩ : ∃ z, (termF L zt).2 = z := ⟨_, rfl⟩
 rw [htv, htb] at CC
 have hIs2 := hIs.out
 rw [htb] at hIs2
 replace htv := Lh htv
 replace htb := Lh htb
 replace hIs2 := Lh hIs2
 refine (CC).mono ?_
 rintro e y3 ⟨rfl, hY⟩
 replace HB := bt HB hY
 replace kL := kL.b hY
 replace kR := kR.b hY
 replace R0 := R0.on hY hY.size
 clear hY
 clear CC
 rcases tb with _ | _
 ·
  have HM : Hid (compactF L zt = (zL, 1)) := by show _ = _; unfold compactF; rw [htb.out]; rfl
  go_wp2_with (first | (first | refine lo_Lj kL ?_ | refine lo_Lj kR ?_) | refine st_L rfl _ _ rfl zL none 0 0 rfl rfl _ kR rfl ?_)
  intro yz kZ pz
  have HB2 := pz.below _ _ HB (Nat.le_of_lt LTkLkR.out)
  clear kL kR HB pz R0
  go_wp2_with fail
  (try simp only [Exit.inBlock, Exit.then])
  refine bodyPost_ret (res2 Tryz.results96 rfl rfl (aggL _) (sizeL _) (ldL kZ)) rfl ?_
  exact ⟨none, 0, 0, by rw [HM.out]; rfl, by rw [HM.out]; rfl, by rw [HM.out]; exact RdE.nil _ _ _, Nat.le_refl _, HB2, by rw [HM.out]; exact OwnE.nil _ _⟩
 ·
  have hin := of_decide_eq_true hIs2.out.symm
  obtain ⟨u, hu⟩ : ∃ u : Nat, zt = L.b + (u : Int) := ⟨(zt - L.b).toNat, by omega⟩
  have hun : u ≤ n := by omega
  have HM : Hid (compactF L zt = (⟨zt, tv, confF L.j (L.es.take u), L.es.drop u⟩, 0)) := by show _ = _; unfold compactF; rw [if_pos htb.out, htv.out, show (zt - L.b).toNat = u by omega]
  replace hu := Lh hu
  go_upto_region 4 with (first | refine lo_Lj kL ?_ | refine lo_Lj kR ?_)
  go_wp2_with (first | refine al_L rfl rfl ?_ | (first | refine lo_Lj kL ?_ | refine lo_Lj kR ?_))
  intro y4 kO e4 s4
  clear s4
  replace kO : Blk _ _ _ (lgC zL (.slice none 0 0)) := kO
  have LTkLkO := Lh kL.lt
  have LTkRkO := Lh kR.lt
  replace HB := bt HB e4
  replace kL := kL.b e4
  replace kR := kR.b e4
  replace R0 := R0.on e4 e4.size
  clear e4
  generalize y3.heap.size = gkO at *
  go_upto_region 5 with (fail)
  refine wp_region_held_drew (S := fun wq => Blk 30 wq w.heap.size (lgC L (.slice A n c))) (by kernel_rfl) ?s_rcmp5 (fun hHeld => ?_)
  case s_rcmp5 => exact kL
  have hD := (Below.refl y4.heap.size y4).drew
  replace HB := bt HB hD
  replace kL := kL.b hD
  replace kR := kR.b hD
  replace kO := kO.b hD
  replace R0 := R0.on hD hD.size
  clear hD
  generalize y4.drew = yD at *
  clear R0
  iterate 3 (refine tx 0 _ ?_; try simp only [Act.put, ka, kb, kc])
  refine tj 3 (jV L.j) ?_ (hy := fun wq hSw => run_ldJ rfl rfl (at_jL hSw))
  try simp only [Act.put, ka, kb, kc]
  refine tj 4 _ ?_
  try simp only [Act.put, ka, kb, kc]
  refine rr [5] ?_
  refine rc (fun KQ hKQ => ?_) AllReadyH.nil
  have df := fun i => kO.frozen i
  have cO : _ = some _ := kO.cell 0
  go_simp
  have kO2 := set_b kO zt
  have pO := put_set yD gkO 0 (.int .i64 zt)
  clear df cO kO
  generalize (yD.setCell ⟨gkO, 0, none⟩ (.int .i64 zt)) = yE at *
  replace kL := kL.put pO (Nat.ne_of_lt LTkLkO.out)
  replace kR := kR.put pO (Nat.ne_of_lt LTkRkO.out)
  replace HB := pO.below _ _ HB (Nat.le_of_lt LTkLkO.out)
  have kO := kO2
  clear kO2 pO
  refine hKQ.out _ _ (kL) (fun _ => ?_)
  clear hKQ KQ
  try simp only [Act.put]
  refine tj 6 _ ?_
  try simp only [Act.put, ka, kb, kc]
  refine rr [7] ?_
  refine rc (fun KQ hKQ => ?_) AllReadyH.nil
  have df := fun i => kO.frozen i
  have cO : _ = some _ := kO.cell 1
  go_simp
  have kO2 := set_t kO tv
  have pO := put_set yE gkO 1 (.int .i64 tv)
  clear df cO kO
  generalize (yE.setCell ⟨gkO, 1, none⟩ (.int .i64 tv)) = yF at *
  replace kL := kL.put pO (Nat.ne_of_lt LTkLkO.out)
  replace kR := kR.put pO (Nat.ne_of_lt LTkRkO.out)
  replace HB := pO.below _ _ HB (Nat.le_of_lt LTkLkO.out)
  have kO := kO2
  clear kO2 pO
  refine hKQ.out _ _ (kL) (fun _ => ?_)
  clear hKQ KQ
  try simp only [Act.put]
  refine tj 8 _ ?_
  try simp only [Act.put, ka, kb, kc]
  refine rr [9] ?_
  refine rc (fun KQ hKQ => ?_) AllReadyH.nil
  refine step_stJ rfl _ _ rfl L.j rfl rfl kO ?_
  intro yG kO2 pO
  clear kO
  replace kL := kL.put pO (Nat.ne_of_lt LTkLkO.out)
  replace kR := kR.put pO (Nat.ne_of_lt LTkRkO.out)
  replace HB := pO.below _ _ HB (Nat.le_of_lt LTkLkO.out)
  have kO := kO2
  clear kO2 pO
  refine hKQ.out _ _ (kL) (fun _ => ?_)
  clear hKQ KQ
  try simp only [Act.put]
  refine wpAnyH_done (by kernel_rfl) ?_ _
  replace kO : Blk 30 yG gkO (lgC ⟨zt, tv, L.j, []⟩ (.slice none 0 0)) := kO
  have cL0 : _ = some (Value.int .i64 L.b) := kL.cell 0
  have wb1 : IntKind.i64.wrap (L.b + 1) = L.b + 1 := wrap_sm (by omega) (by omega)
  go_wp2_with fail
  clear cL0
  have BkL := Lh kL
  have BkR := Lh kR
  have BH := Lh HB
  have hOs := Lh (Nat.lt_of_lt_of_le LTkLkO.out (Nat.le_refl _))
  clear kL kR HB
  go_loopw [9] (fun iv wr => ∃ (k : Nat) (A' : Option Addr) (n' c' : Nat), k ≤ n ∧ iv = .int .i64 (L.b + 1 + (k : Int)) ∧ Hid (Blk 30 wr gkO (lgC ⟨zt, tv, confF L.j (L.es.take (min k u)), []⟩ (.slice A' n' c'))) ∧ Hid (OwnE wr (gkO + 1) (.slice A' n' c') ((L.es.take k).drop u)) ∧ Hid (Below gkO yG wr)) (fun iv _ => (L.b + 1 + n - intOf iv).toNat)
  case atStart => exact ⟨0, none, 0, 0, Nat.zero_le _, congrArg (Value.int .i64) (by omega), (by rw [Nat.zero_min, List.take_zero]; exact Lh kO), (by rw [List.take_zero, List.drop_nil]; exact Lh (OwnE.nil _ _)), Lh (Below.refl _ _)⟩
  case round =>
   obtain ⟨k, A', n', c', hk, rfl, HkO, HO, HY⟩ := hrel
   clear kO
   by_cases hkn : k < n
   ·
    have kL := BkL.out.below HY.out LTkLkO.out
    have kR := BkR.out.below HY.out LTkRkO.out
    have kO := HkO.out
    have hO := HO.out
    have HB := HY.out
    have R0 := HR.out.on ((BH.out.trans (HB.mono (Nat.le_of_lt hOs.out))).mono hBs.out) (Nat.le_trans hBs.out (BH.out.trans (HB.mono (Nat.le_of_lt hOs.out))).size)
    have ck : L.b + 1 + (k : Int) ≤ L.b + (n : Int) := by omega
    have wk : IntKind.i64.wrap (L.b + 1 + (k : Int) + 1) = L.b + 1 + ((k + 1 : Nat) : Int) := by rw [wrap_sm (by omega) (by omega)]; omega
    obtain ⟨x, hx⟩ : ∃ x, L.es[k]? = some x := ⟨_, List.getElem?_eq_getElem (by rw [hlh.out]; exact hkn)⟩
    have hat : Hid (atF L (L.b + 1 + (k : Int)) = (x, true)) := atF_in rfl hx
    replace hx := Lh hx
    go_wp2_with (first | refine lo_Lj kL ?_ | refine lo_Lj kR ?_ | refine lo_Lj kO ?_)
    have CC := rlast_any L A n c wr R0.1 HF.out
    rw [hlast.out] at CC
    refine (CC).mono ?_
    rintro e y41 ⟨rfl, hY⟩
    replace HB := HB.trans (hY.mono (Nat.le_of_lt kO.lt))
    replace kL := kL.b hY
    replace kR := kR.b hY
    replace kO := kO.b hY
    replace R0 := R0.on hY hY.size
    replace hO := hO.below hY
    clear hY
    clear CC
    go_wp2_with (first | refine lo_Lj kL ?_ | refine lo_Lj kR ?_ | refine lo_Lj kO ?_)
    have CC := rat_any L A n c (L.b + 1 + (k : Int)) y41 y41.heap.size R0 (Nat.le_refl _) hc HF.out
    rw [hat.out] at CC
    dsimp only at CC
    refine (CC).mono ?_
    rintro e y42 ⟨rfl, hY⟩
    replace HB := HB.trans (hY.mono (Nat.le_of_lt kO.lt))
    replace kL := kL.b hY
    replace kR := kR.b hY
    replace kO := kO.b hY
    replace R0 := R0.on hY hY.size
    replace hO := hO.below hY
    clear hY
    clear CC
    have lkL := kL.lt
    have lkR := kR.lt
    have lkO := kO.lt
    have t43 := Below.refl y42.heap.size y42
    go_wp2_with (first | refine al_E rfl rfl ?_ | (first | refine lo_Lj kL ?_ | refine lo_Lj kR ?_ | refine lo_Lj kO ?_))
    intro x44 zkE e44 s44
    replace kL := kL.b e44
    replace kR := kR.b e44
    replace kO := kO.b e44
    have lekE := t43.size
    replace t43 := t43.trans (e44.mono t43.size)
    go_wp2_with (refine st_E rfl _ _ rfl x rfl rfl _ zkE rfl ?_)
    intro y45 kE p45
    replace kL := kL.put p45 (Nat.ne_of_lt (Nat.lt_of_lt_of_le lkL lekE))
    replace kR := kR.put p45 (Nat.ne_of_lt (Nat.lt_of_lt_of_le lkR lekE))
    replace kO := kO.put p45 (Nat.ne_of_lt (Nat.lt_of_lt_of_le lkO lekE))
    replace t43 := p45.below _ _ t43 lekE
    have NEkOkE := Lh (Nat.ne_of_gt (Nat.lt_of_lt_of_le lkO lekE))
    replace R0 := R0.on t43 t43.size
    replace hO := hO.below t43
    replace HB := HB.trans (t43.mono (Nat.le_of_lt lkO))
    clear lkL lkR lkO s44 e44 lekE t43
    generalize y42.heap.size = gkE at *
    try clear zkE
    by_cases hku : u ≤ k
    ·
     have cgt : zt < L.b + 1 + (k : Int) := by have := hu.out; omega
     go_upto_region 11 with (first | refine lo_Lj kL ?_ | refine lo_Lj kR ?_ | refine lo_Lj kO ?_ | refine lo_Ej kE ?_)
     have cO13 : _ = some _ := kO.cell 13
     go_wp2_with (first | (first | refine lo_Lj kL ?_ | refine lo_Lj kR ?_ | refine lo_Lj kO ?_ | refine lo_Ej kE ?_) | refine kit.bs_E rfl _ rfl x rfl ?_)
     intro yS kS eS
     have RX := (ref12.rd_one kS)
     clear kS
     replace HB := HB.trans (eS.mono (Nat.le_of_lt kO.lt))
     replace kL := kL.b eS
     replace kR := kR.b eS
     replace kO := kO.b eS
     replace kE := kE.b eS
     replace R0 := R0.on eS eS.size
     replace hO := hO.below eS
     clear eS
     have hn6 : n' ≤ 1000000 := by rw [hO.cap.1, List.length_drop, List.length_take]; have := hlh.out; omega
     have hgO : gkO + 1 ≤ yS.heap.size := kO.lt
     go_wp2_with (at_builtin; with_reducible refine wpList_append_E rfl (.tmp 47) (.tmp 49) rfl (gkO + 1) A' n' c' _ rfl hO _ _ 1 1 [x] rfl RX ?hb1 hgO ?_)
     case hb1 => omega
     intro A5 c5 y5 hO5 hY5 hG5
     have kL2 := kL.below hY5 (Nat.lt_succ_of_lt LTkLkO.out)
     have kR2 := kR.below hY5 (Nat.lt_succ_of_lt LTkRkO.out)
     have kO2 := kO.below hY5 (Nat.lt_succ_self _)
     have HB2 := HB.trans (hY5.mono (Nat.le_succ _))
     clear kL kR kO kE HB hO hY5 hG5 RX R0
     have df := fun i => kO2.frozen i
     have cO13 : _ = some _ := kO2.cell 13
     go_upto_region 8 with (fail)
     have kO3 := set_es kO2 (.slice A5 (n' + 1) c5)
     have pO := put_set y5 gkO 13 (.slice A5 (n' + 1) c5)
     clear df cO13 kO2
     generalize (y5.setCell ⟨gkO, 13, none⟩ (.slice A5 (n' + 1) c5)) = y6 at *
     have hO6 := hO5.put pO (Nat.lt_succ_self _)
     have HB3 := pO.below _ _ HB2 (Nat.le_refl _)
     have hes : (L.es.take k).drop u ++ [x] = (L.es.take (k + 1)).drop u := by
      obtain ⟨h1, h2⟩ := List.getElem?_eq_some_iff.1 hx.out
      rw [List.take_succ_eq_append_getElem h1, List.drop_append_of_le_length (by rw [List.length_take, hlh.out]; omega), h2]
     rw [hes] at hO6
     have hmu : min k u = min (k + 1) u := by omega
     rw [hmu] at kO3
     replace kO3 := Lh kO3
     replace hO6 := Lh hO6
     replace HB3 := Lh HB3
     clear hes hmu hO5 pO HB2 kL2 kR2 hn6
     go_wp2_with fail
     go_roundw
     case rel => exact ⟨k + 1, A5, n' + 1, c5, by omega, rfl, kO3, hO6, HB3⟩
     case measure => simp only [intOf]; omega
    ·
     have cgt : ¬ (zt < L.b + 1 + (k : Int)) := by have := hu.out; omega
     have cEk : _ = some (Value.int .i64 x.k) := kE.cell 1
     have hmk : min k u = k := by omega
     have hmk1 : min (k + 1) u = k + 1 := by omega
     have hes : (L.es.take k).drop u = [] := List.drop_of_length_le (by rw [List.length_take]; omega)
     have hes1 : (L.es.take (k + 1)).drop u = [] := List.drop_of_length_le (by rw [List.length_take]; omega)
     have hcf := confF_snoc (j := L.j) hx.out
     rw [hmk] at kO
     rw [hes] at hO
     replace hmk := Lh hmk
     replace hmk1 := Lh hmk1
     replace hes := Lh hes
     replace hes1 := Lh hes1
     clear R0
     by_cases hk2 : x.k = 2
     ·
      rw [if_pos hk2] at hcf
      have cfh := Lh hcf
      clear hcf
      have ck2 : (x.k == 2) = true := by simp [hk2]
      go_wp2_with (first | refine ld_J rfl _ rfl rfl (at_jE kE) ?_ | refine st_J rfl _ _ rfl x.j rfl rfl kO ?_)
      intro y6 kO3 pO
      have HB3 := pO.below _ _ HB (Nat.le_refl _)
      have hO6 := hO.put pO (Nat.lt_succ_self _)
      rw [← hes1.out] at hO6
      have kO4 : Blk 30 y6 gkO (lgC ⟨zt, tv, confF L.j (L.es.take (min (k + 1) u)), []⟩ (.slice A' n' c')) := by rw [hmk1.out, cfh.out]; exact kO3
      replace hO6 := Lh hO6
      replace HB3 := Lh HB3
      replace kO4 := Lh kO4
      clear kO kO3 pO kL kR kE HB hO cEk
      go_wp2_with fail
      go_roundw
      case rel => exact ⟨k + 1, A', n', c', by omega, rfl, kO4, hO6, HB3⟩
      case measure => simp only [intOf]; omega
     ·
      rw [if_neg hk2] at hcf
      have cfh := Lh hcf
      clear hcf
      have ck2 : (x.k == 2) = false := by simp [hk2]
      rw [← hes1.out] at hO
      have kO4 : Blk 30 y45 gkO (lgC ⟨zt, tv, confF L.j (L.es.take (min (k + 1) u)), []⟩ (.slice A' n' c')) := by rw [hmk1.out, cfh.out]; exact kO
      replace hO := Lh hO
      replace HB := Lh HB
      replace kO4 := Lh kO4
      go_wp2_with fail
      go_roundw
      case rel => exact ⟨k + 1, A', n', c', by omega, rfl, kO4, hO, HB⟩
      case measure => simp only [intOf]; omega
   ·
    obtain rfl : k = n := by omega
    have kL := BkL.out.below HY.out LTkLkO.out
    have kR := BkR.out.below HY.out LTkRkO.out
    have kO := HkO.out
    have hO := HO.out
    have HB := HY.out
    have R0 := HR.out.on ((BH.out.trans (HB.mono (Nat.le_of_lt hOs.out))).mono hBs.out) (Nat.le_trans hBs.out (BH.out.trans (HB.mono (Nat.le_of_lt hOs.out))).size)
    have ck : ¬ (L.b + 1 + (k : Int) ≤ L.b + (k : Int)) := by omega
    have hmu : min k u = u := by omega
    rw [hmu] at kO
    clear hmu
    have hall : L.es.take k = L.es := List.take_of_length_le (by rw [hlh.out]; exact Nat.le_refl _)
    rw [hall] at hO
    clear hall
    go_wp2_with (first | refine lo_Lj kL ?_ | refine lo_Lj kR ?_ | refine lo_Lj kO ?_)
    have CC := rlast_any L A k c wr R0.1 HF.out
    rw [hlast.out] at CC
    refine (CC).mono ?_
    rintro e y41 ⟨rfl, hY⟩
    replace HB := HB.trans (hY.mono (Nat.le_of_lt kO.lt))
    replace kL := kL.b hY
    replace kR := kR.b hY
    replace kO := kO.b hY
    replace R0 := R0.on hY hY.size
    replace hO := hO.below hY
    clear hY
    clear CC
    go_upto_region 14 with (first | refine lo_Lj kL ?_ | refine lo_Lj kR ?_ | refine lo_Lj kO ?_)
    go_wp2_with (first | (first | refine lo_Lj kL ?_ | refine lo_Lj kR ?_ | refine lo_Lj kO ?_) | refine st_L rfl _ _ rfl (⟨zt, tv, confF L.j (L.es.take u), []⟩ : LgL) A' n' c' rfl rfl _ kR rfl ?_)
    intro yz kZ pz
    have HB2 := pz.below _ _ (BH.out.trans (HB.mono (Nat.le_of_lt hOs.out))) (Nat.le_of_lt LTkLkR.out)
    have hO2 := hO.put pz (Nat.lt_succ_of_lt LTkRkO.out)
    clear kL kR kO HB pz R0
    go_wp2_with fail
    (try simp only [Exit.inBlock, Exit.then])
    refine bodyPost_ret (res2 Tryz.results96 rfl rfl (aggL _) (sizeL _) (ldL kZ)) rfl ?_
    exact ⟨A', n', c', by rw [HM.out]; rfl, by rw [HM.out]; exact hO2.cap.1, by rw [HM.out]; exact hO2.cap.2.2.2, hO2.cap.2.1, HB2, by rw [HM.out]; exact hO2.more (Nat.le_succ_of_le (Nat.le_of_lt LTkLkO.out))⟩
end Go.Proofs.YtegnfkbmlalkeaaGreat.ref12
