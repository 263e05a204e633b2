/- The document's SameMsgs of two rows that read the same. Conditions: those that the theorem names. -/
import Derived.Deep.RegionHeld3
import Derived.Deep.Cut
import Derived.Lib.Hide
import Derived.Test.YtegnfkbmlalkeaaGreatSpJ4
import Derived.Test.YtegnfkbmlalkeaaGreatSpJ1
import Derived.Test.YtegnfkbmlalkeaaGreatSpJ0
import Derived.Test.YtegnfkbmlalkeaaGreatSpKitLg
set_option linter.unusedVariables false
set_option maxHeartbeats 16000000
set_option maxRecDepth 10000
namespace Go.Proofs.YtegnfkbmlalkeaaGreat.ref13
open Go Go.RowKit kit nums cf lg cr se
theorem step_alM {w : World} {ops : Array Oper} {o : Oper} {a : Act} {Q : Exit → Act → World → Prop} {K : Act → World → Prop} {E : Prop} (hgd : o.guard = none) (ho : o.op = .alloc 49)
  (hK : ∀ w', Blk 49 w' w.heap.size (msC zM (.slice none 0 0)) → Below w.heap.size w w' → K (a.put o.dst (.pointer (some ⟨w.heap.size, 0, none⟩))) w') : if Region.wanted o (yielded ops a.tmps) = true then Oper.wp Tryz.prog o a w K Q else E := by
 have hw : Region.wanted o (yielded ops a.tmps) = true := by simp [Region.wanted, hgd]
 rw [if_pos hw]
 have hz := zeroMv
 cases hq : Tryz.prog.info? 49 with
 | none => simp [hq] at hz
 | some i =>
  have hz' : i.zero = some (.agg zMc.toArray) := by simpa [hq] using hz
  unfold Oper.wp execOp
  simp [ho, Instr.alloc, zeroValue, typeInfo, hq, hz', newVar, newRow, Sem.run_bind, Sem.run_pure]
  exact hK _ (heap_alloc_new w _) ((Below.refl _ _).alloc (Nat.le_refl _) _)
theorem samemsgs_eq (ms : List MsL) (A : Option Addr) (n p : Nat) (xs : List (MsL × Value)) (A2 : Option Addr) (p2 : Nat) (xs2 : List (MsL × Value)) (w : World) (h1 : InM w w.heap.size A n xs) (h2 : InM w w.heap.size A2 n xs2) (hf1 : xs.map Prod.fst = ms) (hf2 : xs2.map Prod.fst = ms) (hn : n ≤ 1000000) (hes : ∀ m ∈ ms, m.es.length ≤ 1000000) : Calls Tryz.prog 20 #[.slice A n p, .slice A2 n p2] w fun e w' => e = .returned (.bool true) ∧ Below w.heap.size w w' := by
 have H1 := Lh h1
 have H2 := Lh h2
 have HF1 := Lh hf1
 have HF2 := Lh hf2
 have hn2 := Lh hn
 clear h1 h2 hf1 hf2 hn
 go_enter Tryz.func20, Tryz.ntmps20
 go_wp2_with go_skip
 go_loopw [5] (fun iv wr => ∃ i : Nat, i ≤ n ∧ iv = .int .i64 (i : Int) ∧ Hid (Below w.heap.size w wr)) (fun iv _ => n - (intOf iv).toNat)
 case atStart => exact ⟨0, by omega, rfl, Lh (Below.refl _ _)⟩
 case round =>
  obtain ⟨i, hi, rfl, HBr⟩ := hrel
  by_cases hin : i < n
  ·
   have ck : (i : Int) < (n : Int) := by omega
   have ck0 : (0 : Int) ≤ (i : Int) := by omega
   have wk : IntKind.i64.wrap ((i : Int) + 1) = ((i + 1 : Nat) : Int) := by have := hn2.out; rw [wrap_sm (by omega) (by omega)]; omega
   have HB := HBr.out
   obtain ⟨b1, o1, x1, A1, n1, p1, rfl, hb1, hx1, -, -, hA1, hR1⟩ := (H1.out.below HB).at_ hin
   obtain ⟨b2, o2, x2, A2, n2, p2, rfl, hb2, hx2, -, -, hA2, hR2⟩ := (H2.out.below HB).at_ hin
   have he : x2.1 = x1.1 := by
    have e1 := congrArg (fun l => l[i]?) HF1.out
    have e2 := congrArg (fun l => l[i]?) HF2.out
    simp only [List.getElem?_map, hx1] at e1
    simp only [List.getElem?_map, hx2] at e2
    exact Option.some.inj (e2.trans e1.symm)
   rw [he] at hA2 hR2
   obtain ⟨m, hm⟩ : ∃ q, x1.1 = q := ⟨_, rfl⟩
   have hmm : m ∈ ms := by rw [← HF1.out, ← hm]; exact List.mem_map.2 ⟨x1, List.mem_of_getElem? hx1, rfl⟩
   rw [hm] at hA1 hA2 hR1 hR2
   have hm6 : Hid (n1 ≤ 1099511627776) := Lh (by have h3 := hes m hmm; have := hR1.1; omega)
   replace hb1 := Lh hb1
   replace hb2 := Lh hb2
   have hR1 := hR1.more HB.size
   have hR2 := hR2.more HB.size
   clear hx1 hx2 he hm
   go_upto_region 6 with (go_skip)
   go_cut [6, 7] from 200 (fun xv yv wx => ∃ g1 g2 : Nat, xv = .pointer (some ⟨g1, 0, none⟩) ∧ yv = .pointer (some ⟨g2, 0, none⟩) ∧ Hid (Blk 49 wx g1 (msC m (.slice A1 n1 p1))) ∧ Hid (Blk 49 wx g2 (msC m (.slice A2 n2 p2))) ∧ Hid (Below wr.heap.size wr wx))
   case first =>
    have HQ := Below.refl wr.heap.size wr
    refine wp_region_held_drew (S := fun wq => At wq b1 (o1 + i * 22) (msC m (.slice A1 n1 p1)) ∧ At wq b2 (o2 + i * 22) (msC m (.slice A2 n2 p2))) (by kernel_rfl) ?s_sgm6 (fun hHeld => ?_)
    case s_sgm6 => exact ⟨hA1, hA2⟩
    have hD := (Below.refl wr.heap.size wr).drew
    replace hA1 := hA1.below (Nat.lt_of_lt_of_le hb1.out (Nat.le_trans HB.size HQ.size)) hD
    replace hA2 := hA2.below (Nat.lt_of_lt_of_le hb2.out (Nat.le_trans HB.size HQ.size)) hD
    replace HQ := HQ.trans (hD.mono HQ.size)
    clear hD
    generalize hyd : wr.drew = yq at HQ hA1 hA2 hHeld ⊢
    clear hyd
    iterate 2 (refine tx 0 _ ?_; try simp only [Act.put, ka, kb, kc])
    iterate 2 (refine tx 4 _ ?_; try simp only [Act.put, ka, kb, kc])
    refine tj 2 _ ?_
    try simp only [Act.put, ka, kb, kc]
    refine tj 6 _ ?_
    try simp only [Act.put, ka, kb, kc]
    refine tj 3 ((msV m (.slice A1 n1 p1))) ?_ (hy := fun wq hSw => run_ldAt rfl rfl hSw.1 (aggM _) (sizeM _))
    try simp only [Act.put, ka, kb, kc]
    refine tj 7 ((msV m (.slice A2 n2 p2))) ?_ (hy := fun wq hSw => run_ldAt rfl rfl hSw.2 (aggM _) (sizeM _))
    try simp only [Act.put, ka, kb, kc]
    refine rr [8, 9] ?_
    refine rc (fun KQ hKQ => ?_) (rc (fun KQ hKQ => ?_) (AllReadyH.nil))
    ·
     refine step_alM rfl rfl ?_
     intro yq2 zX eA
     have hgX := Lh HQ.size
     try have LTYX := Lh zY.lt
     replace hA1 := hA1.below (Nat.lt_of_lt_of_le hb1.out (Nat.le_trans HB.size HQ.size)) eA
     replace hA2 := hA2.below (Nat.lt_of_lt_of_le hb2.out (Nat.le_trans HB.size HQ.size)) eA
     try replace zY := zY.b eA
     replace HQ := HQ.trans (eA.mono HQ.size)
     clear eA
     generalize yq.heap.size = gX at *
     obtain ⟨yq, hyq⟩ : ∃ z, z = yq2 := ⟨_, rfl⟩
     subst hyq
     refine hKQ.out _ _ (⟨hA1, hA2⟩) (fun _ => ?_)
     clear hKQ KQ
     try simp only [Act.put, ka, kb, kc]
     refine rr [9] ?_
     refine rc (fun KQ hKQ => ?_) AllReadyH.nil
     refine step_alM rfl rfl ?_
     intro yq2 zY eA
     have hgY := Lh HQ.size
     try have LTXY := Lh zX.lt
     replace hA1 := hA1.below (Nat.lt_of_lt_of_le hb1.out (Nat.le_trans HB.size HQ.size)) eA
     replace hA2 := hA2.below (Nat.lt_of_lt_of_le hb2.out (Nat.le_trans HB.size HQ.size)) eA
     try replace zX := zX.b eA
     replace HQ := HQ.trans (eA.mono HQ.size)
     clear eA
     generalize yq.heap.size = gY at *
     obtain ⟨yq, hyq⟩ : ∃ z, z = yq2 := ⟨_, rfl⟩
     subst hyq
     refine hKQ.out _ _ (⟨hA1, hA2⟩) (fun _ => ?_)
     clear hKQ KQ
     try simp only [Act.put, ka, kb, kc]
     refine rr [10] ?_
     refine rc (fun KQ hKQ => ?_) AllReadyH.nil
     refine step_stAt rfl 49 _ _ rfl (cells := (msC m (.slice A1 n1 p1)).toArray) (msC m (.slice A1 n1 p1)) rfl rfl zX sizeMv (by show 0 + 22 ≤ 22; omega) (ms_one _) rfl ?_
     intro yq2 zN pO
     first | replace zY := zY.put pO (Nat.ne_of_lt LTYX.out) | replace zY := zY.put pO (Nat.ne_of_gt LTXY.out)
     replace hA1 := at_put hA1 pO (by have := hb1.out; have := HB.size; have := hgX.out; omega)
     replace hA2 := at_put hA2 pO (by have := hb2.out; have := HB.size; have := hgX.out; omega)
     replace HQ := pO.below _ _ HQ hgX.out
     clear zX pO
     have zX := zN
     clear zN
     obtain ⟨yq, hyq⟩ : ∃ z, z = yq2 := ⟨_, rfl⟩
     subst hyq
     refine hKQ.out _ _ (⟨hA1, hA2⟩) (fun _ => ?_)
     clear hKQ KQ
     try simp only [Act.put]
     refine rr [11] ?_
     refine rc (fun KQ hKQ => ?_) AllReadyH.nil
     refine step_stAt rfl 49 _ _ rfl (cells := (msC m (.slice A2 n2 p2)).toArray) (msC m (.slice A2 n2 p2)) rfl rfl zY sizeMv (by show 0 + 22 ≤ 22; omega) (ms_one _) rfl ?_
     intro yq2 zN pO
     first | replace zX := zX.put pO (Nat.ne_of_lt LTXY.out) | replace zX := zX.put pO (Nat.ne_of_gt LTYX.out)
     replace hA1 := at_put hA1 pO (by have := hb1.out; have := HB.size; have := hgY.out; omega)
     replace hA2 := at_put hA2 pO (by have := hb2.out; have := HB.size; have := hgY.out; omega)
     replace HQ := pO.below _ _ HQ hgY.out
     clear zY pO
     have zY := zN
     clear zN
     obtain ⟨yq, hyq⟩ : ∃ z, z = yq2 := ⟨_, rfl⟩
     subst hyq
     refine hKQ.out _ _ (⟨hA1, hA2⟩) (fun _ => ?_)
     clear hKQ KQ
     try simp only [Act.put]
     refine wpAnyH_done (by kernel_rfl) ?_ _
     go_wp2_with fail
     go_meet
     case rel => exact ⟨_, _, rfl, rfl, Lh zX, Lh zY, Lh HQ⟩
    ·
     refine step_alM rfl rfl ?_
     intro yq2 zY eA
     have hgY := Lh HQ.size
     try have LTXY := Lh zX.lt
     replace hA1 := hA1.below (Nat.lt_of_lt_of_le hb1.out (Nat.le_trans HB.size HQ.size)) eA
     replace hA2 := hA2.below (Nat.lt_of_lt_of_le hb2.out (Nat.le_trans HB.size HQ.size)) eA
     try replace zX := zX.b eA
     replace HQ := HQ.trans (eA.mono HQ.size)
     clear eA
     generalize yq.heap.size = gY at *
     obtain ⟨yq, hyq⟩ : ∃ z, z = yq2 := ⟨_, rfl⟩
     subst hyq
     refine hKQ.out _ _ (⟨hA1, hA2⟩) (fun _ => ?_)
     clear hKQ KQ
     try simp only [Act.put, ka, kb, kc]
     refine rr [8] ?_
     refine rc (fun KQ hKQ => ?_) AllReadyH.nil
     refine step_alM rfl rfl ?_
     intro yq2 zX eA
     have hgX := Lh HQ.size
     try have LTYX := Lh zY.lt
     replace hA1 := hA1.below (Nat.lt_of_lt_of_le hb1.out (Nat.le_trans HB.size HQ.size)) eA
     replace hA2 := hA2.below (Nat.lt_of_lt_of_le hb2.out (Nat.le_trans HB.size HQ.size)) eA
     try replace zY := zY.b eA
     replace HQ := HQ.trans (eA.mono HQ.size)
     clear eA
     generalize yq.heap.size = gX at *
     obtain ⟨yq, hyq⟩ : ∃ z, z = yq2 := ⟨_, rfl⟩
     subst hyq
     refine hKQ.out _ _ (⟨hA1, hA2⟩) (fun _ => ?_)
     clear hKQ KQ
     try simp only [Act.put, ka, kb, kc]
     refine rr [10] ?_
     refine rc (fun KQ hKQ => ?_) AllReadyH.nil
     refine step_stAt rfl 49 _ _ rfl (cells := (msC m (.slice A1 n1 p1)).toArray) (msC m (.slice A1 n1 p1)) rfl rfl zX sizeMv (by show 0 + 22 ≤ 22; omega) (ms_one _) rfl ?_
     intro yq2 zN pO
     first | replace zY := zY.put pO (Nat.ne_of_lt LTYX.out) | replace zY := zY.put pO (Nat.ne_of_gt LTXY.out)
     replace hA1 := at_put hA1 pO (by have := hb1.out; have := HB.size; have := hgX.out; omega)
     replace hA2 := at_put hA2 pO (by have := hb2.out; have := HB.size; have := hgX.out; omega)
     replace HQ := pO.below _ _ HQ hgX.out
     clear zX pO
     have zX := zN
     clear zN
     obtain ⟨yq, hyq⟩ : ∃ z, z = yq2 := ⟨_, rfl⟩
     subst hyq
     refine hKQ.out _ _ (⟨hA1, hA2⟩) (fun _ => ?_)
     clear hKQ KQ
     try simp only [Act.put]
     refine rr [11] ?_
     refine rc (fun KQ hKQ => ?_) AllReadyH.nil
     refine step_stAt rfl 49 _ _ rfl (cells := (msC m (.slice A2 n2 p2)).toArray) (msC m (.slice A2 n2 p2)) rfl rfl zY sizeMv (by show 0 + 22 ≤ 22; omega) (ms_one _) rfl ?_
     intro yq2 zN pO
     first | replace zX := zX.put pO (Nat.ne_of_lt LTXY.out) | replace zX := zX.put pO (Nat.ne_of_gt LTYX.out)
     replace hA1 := at_put hA1 pO (by have := hb1.out; have := HB.size; have := hgY.out; omega)
     replace hA2 := at_put hA2 pO (by have := hb2.out; have := HB.size; have := hgY.out; omega)
     replace HQ := pO.below _ _ HQ hgY.out
     clear zY pO
     have zY := zN
     clear zN
     obtain ⟨yq, hyq⟩ : ∃ z, z = yq2 := ⟨_, rfl⟩
     subst hyq
     refine hKQ.out _ _ (⟨hA1, hA2⟩) (fun _ => ?_)
     clear hKQ KQ
     try simp only [Act.put]
     refine wpAnyH_done (by kernel_rfl) ?_ _
     go_wp2_with fail
     go_meet
     case rel => exact ⟨_, _, rfl, rfl, Lh zX, Lh zY, Lh HQ⟩
   case rest =>
    obtain ⟨g1, g2, rfl, rfl, hX, hY, hQ⟩ := hcut
    have kX := hX.out
    have kY := hY.out
    have R1 := hR1.on hQ.out hQ.out.size
    have R2 := hR2.on hQ.out hQ.out.size
    replace HB := HB.trans (hQ.out.mono HB.size)
    clear hX hY hQ hA1 hA2 hR1 hR2
    obtain ⟨v0, hv0⟩ : ∃ q, m.k = q := ⟨_, rfl⟩
    have cx0 : wc.cell? ⟨g1, 0, none⟩ = some (.int .i64 v0) := by rw [← hv0]; exact kX.cell 0
    have cy0 : wc.cell? ⟨g2, 0, none⟩ = some (.int .i64 v0) := by rw [← hv0]; exact kY.cell 0
    clear hv0
    obtain ⟨v1, hv1⟩ : ∃ q, m.f = q := ⟨_, rfl⟩
    have cx1 : wc.cell? ⟨g1, 1, none⟩ = some (.int .i64 v1) := by rw [← hv1]; exact kX.cell 1
    have cy1 : wc.cell? ⟨g2, 1, none⟩ = some (.int .i64 v1) := by rw [← hv1]; exact kY.cell 1
    clear hv1
    obtain ⟨v2, hv2⟩ : ∃ q, m.t = q := ⟨_, rfl⟩
    have cx2 : wc.cell? ⟨g1, 2, none⟩ = some (.int .i64 v2) := by rw [← hv2]; exact kX.cell 2
    have cy2 : wc.cell? ⟨g2, 2, none⟩ = some (.int .i64 v2) := by rw [← hv2]; exact kY.cell 2
    clear hv2
    obtain ⟨v3, hv3⟩ : ∃ q, m.m = q := ⟨_, rfl⟩
    have cx3 : wc.cell? ⟨g1, 3, none⟩ = some (.int .i64 v3) := by rw [← hv3]; exact kX.cell 3
    have cy3 : wc.cell? ⟨g2, 3, none⟩ = some (.int .i64 v3) := by rw [← hv3]; exact kY.cell 3
    clear hv3
    obtain ⟨v4, hv4⟩ : ∃ q, m.i = q := ⟨_, rfl⟩
    have cx4 : wc.cell? ⟨g1, 4, none⟩ = some (.int .i64 v4) := by rw [← hv4]; exact kX.cell 4
    have cy4 : wc.cell? ⟨g2, 4, none⟩ = some (.int .i64 v4) := by rw [← hv4]; exact kY.cell 4
    clear hv4
    obtain ⟨v5, hv5⟩ : ∃ q, m.lt = q := ⟨_, rfl⟩
    have cx5 : wc.cell? ⟨g1, 5, none⟩ = some (.int .i64 v5) := by rw [← hv5]; exact kX.cell 5
    have cy5 : wc.cell? ⟨g2, 5, none⟩ = some (.int .i64 v5) := by rw [← hv5]; exact kY.cell 5
    clear hv5
    obtain ⟨v6, hv6⟩ : ∃ q, m.c = q := ⟨_, rfl⟩
    have cx6 : wc.cell? ⟨g1, 6, none⟩ = some (.int .i64 v6) := by rw [← hv6]; exact kX.cell 6
    have cy6 : wc.cell? ⟨g2, 6, none⟩ = some (.int .i64 v6) := by rw [← hv6]; exact kY.cell 6
    clear hv6
    obtain ⟨v7, hv7⟩ : ∃ q, m.s = q := ⟨_, rfl⟩
    have cx7 : wc.cell? ⟨g1, 7, none⟩ = some (.int .i64 v7) := by rw [← hv7]; exact kX.cell 7
    have cy7 : wc.cell? ⟨g2, 7, none⟩ = some (.int .i64 v7) := by rw [← hv7]; exact kY.cell 7
    clear hv7
    obtain ⟨v8, hv8⟩ : ∃ q, m.y = q := ⟨_, rfl⟩
    have cx8 : wc.cell? ⟨g1, 8, none⟩ = some (.bool v8) := by rw [← hv8]; exact kX.cell 8
    have cy8 : wc.cell? ⟨g2, 8, none⟩ = some (.bool v8) := by rw [← hv8]; exact kY.cell 8
    clear hv8
    obtain ⟨v10, hv10⟩ : ∃ q, m.d = q := ⟨_, rfl⟩
    have cx10 : wc.cell? ⟨g1, 10, none⟩ = some (.string v10) := by rw [← hv10]; exact kX.cell 10
    have cy10 : wc.cell? ⟨g2, 10, none⟩ = some (.string v10) := by rw [← hv10]; exact kY.cell 10
    clear hv10
    have cx9 : wc.cell? ⟨g1, 9, none⟩ = some (.slice A1 n1 p1) := kX.cell 9
    have cy9 : wc.cell? ⟨g2, 9, none⟩ = some (.slice A2 n2 p2) := kY.cell 9
    have hjq : ∀ w, (binOp .neq 27 (jV m.j) (jV m.j)).run Tryz.prog w = .ok (.bool false) w := fun w => by rw [neq_jt, decide_eq_true rfl]; rfl
    have hjg : ∀ (x y : Operand) w, (eqGuard .neq 27 x y (jV m.j) (jV m.j)).run Tryz.prog w = .ok () w := fun x y w => by kernel_rfl
    go_upto_region 7 with (go_skip)
    simp only [List.append_eq, List.cons_append, List.nil_append]
    go_wp2_with (first | go_skip | refine lo_Mj kX ?_ | refine lo_mJj kX ?_ | refine lo_Mj kY ?_ | refine lo_mJj kY ?_)
    clear cx0 cy0 cx1 cy1 cx2 cy2 cx3 cy3 cx4 cy4 cx5 cy5 cx6 cy6 cx7 cy7 cx8 cy8 cx9 cy9 cx10 cy10
    clear hjq hjg
    have CC := ref12.ralike_any A1 n1 p1 m.es A2 n2 p2 m.es wc wc.heap.size wc.heap.size R1 (Nat.le_refl _) R2 (Nat.le_refl _) hm6.out
    rw [eqEs_self] at CC
    refine (CC).mono ?_
    rintro e y301 ⟨rfl, hY⟩
    replace HB := bt HB hY
    replace kX := kX.b hY
    replace kY := kY.b hY
    replace R1 := R1.on hY hY.size
    replace R2 := R2.on hY hY.size
    clear hY
    clear CC
    go_wp2_with (first | go_skip | refine lo_Mj kX ?_ | refine lo_mJj kX ?_ | refine lo_Mj kY ?_ | refine lo_mJj kY ?_)
    go_roundw
    case rel => exact ⟨i + 1, by omega, rfl, Lh HB⟩
    case measure => simp only [intOf]; omega
  ·
   obtain rfl : i = n := by omega
   have ck : ¬ ((i : Int) < (i : Int)) := by omega
   go_wp2_with go_skip
   go_ret
   exact ⟨rfl, HBr.out⟩
end Go.Proofs.YtegnfkbmlalkeaaGreat.ref13
