/- What the document's answer to conf (antipoderef10) tells of joints: which may be, who is in them. Conditions: sets are uint16 values, numbers int. -/
import Derived.Test.YtegnfkbmlalkeaaGreatSpJ2
import Derived.Test.YtegnfkbmlalkeaaGreatSpJ0
set_option linter.unusedVariables false
set_option maxHeartbeats 16000000
set_option maxRecDepth 10000
namespace Go.Proofs.YtegnfkbmlalkeaaGreat.ref10
open Go Go.RowKit kit nums se cf
theorem mayJ_any (j : JtL) (w : World) (h : j.ok) : Calls Tryz.prog 108 #[jtV j] w fun e w' => e = .returned (.bool (mayJ j)) ∧ Below w.heap.size w w' := by
 have HK := Lh (two_ok h)
 have CT := Lh (fun w => two_any j w)
 have CM := Lh (fun (c : CfL) (hc : c.ok) w => may_any c w hc)
 have HR : Hid (mayJ j = ((j.two || decide (j.b = zeroC)) && (twoL j).all mayC)) := by
  show _ = _; unfold mayJ twoL; cases j.two
  · simp [Bool.and_comm]
  · simp
 have NZ := Lh (fun w => neq_zero j.b.v j.b.w j.b.l j.b.e j.b.k w)
 have h2 := two_len j
 rw [HR.out]
 clear HR h
 generalize twoL j = L at *
 obtain ⟨k, hk⟩ : ∃ k, L.length = k := ⟨_, rfl⟩
 rw [hk] at CT h2
 unfold jtV at *
 obtain ⟨⟨av, aw, al, ae, ak⟩, ⟨bv, bw, bl, be, bk⟩, t⟩ := j
 dsimp only at *
 have hB0 := (Below.refl w.heap.size w).alloc (Nat.le_refl _) (.cells #[.int .u16 (av : Int), .int .u16 (aw : Int), .int .u16 (al : Int), .int .i64 ae, .int .i64 ak, .int .u16 (bv : Int), .int .u16 (bw : Int), .int .u16 (bl : Int), .int .i64 be, .int .i64 bk, .bool t] 27)
 go_enter Tryz.func108, Tryz.ntmps108
 have hbz : (⟨bv, bw, bl, be, bk⟩ : CfL) = zeroC ∨ ¬ (⟨bv, bw, bl, be, bk⟩ : CfL) = zeroC := Decidable.em _
 cases t
 ·
  by_cases hz : (⟨bv, bw, bl, be, bk⟩ : CfL) = zeroC
  ·
   rw [decide_eq_true hz] at NZ ⊢
   clear hz hbz
   have nz := fun w => NZ.out w
   go_wp2_with fail
   refine (CT.out _).mono ?_
   rintro e w2 ⟨p, rfl, hp, hB2, hA⟩
   have HA := Lh hA
   have HB2 := Lh (hB0.trans (hB2.mono hB0.size))
   clear hA hB0 hB2 CT
   go_wp2_with fail
   go_loopw [4] (fun iv wr => ∃ i : Nat, i ≤ k ∧ iv = .int .i64 (i : Int) ∧ Below w2.heap.size w2 wr ∧ Hid (∀ c ∈ L.take i, mayC c = true)) (fun iv _ => k - (intOf iv).toNat)
   case atStart => exact ⟨0, Nat.zero_le _, rfl, Below.refl _ _, fun c hc => by simp at hc⟩
   case round =>
    obtain ⟨i, hi, rfl, hBr, HI⟩ := hrel
    by_cases hlt : i < k
    ·
     obtain ⟨c, hc⟩ : ∃ c, L[i]? = some c := ⟨L[i]'(by omega), List.getElem?_eq_getElem _⟩
     have hok := HK.out c (List.mem_of_getElem? hc)
     have hA := HA.out i c hc
     have HC := Lh hc
     clear hc
     have cM := Lh (CM.out c hok)
     have HS : Hid (∀ wq, Below wr.heap.size wr wq → (wq.cell? ⟨p, i * 5, none⟩ = some (.int .u16 (c.v : Int)) ∧ wq.cell? ⟨p, i * 5 + 1, none⟩ = some (.int .u16 (c.w : Int)) ∧ wq.cell? ⟨p, i * 5 + 2, none⟩ = some (.int .u16 (c.l : Int)) ∧ wq.cell? ⟨p, i * 5 + 3, none⟩ = some (.int .i64 c.e) ∧ wq.cell? ⟨p, i * 5 + 4, none⟩ = some (.int .i64 c.k))) := fun wq hq => at5 (hA.below hp (hBr.trans (hq.mono hBr.size)))
     clear hA
     unfold cfV at *
     obtain ⟨cv, cw, cl, ce, ck⟩ := c
     dsimp only at *
     have q0 := Below.refl wr.heap.size wr
     have r0 := HS.out _ q0
     cases hm : mayC ⟨cv, cw, cl, ce, ck⟩
     ·
      rw [hm] at cM
      go_wp2_with fail
      refine (cM.out _).mono ?_
      rintro e y1 ⟨rfl, hY1⟩
      have q1 := q0.trans (hY1.mono q0.size)
      have r1 := HS.out _ q1
      go_wp2_with fail
      go_ret
      exact ⟨ref9.ret_bool (by rw [all_bad HC.out hm]; simp), HB2.out.trans ((hBr.trans (q1.mono hBr.size)).mono HB2.out.size)⟩
     ·
      rw [hm] at cM
      go_wp2_with fail
      refine (cM.out _).mono ?_
      rintro e y1 ⟨rfl, hY1⟩
      have q1 := q0.trans (hY1.mono q0.size)
      have r1 := HS.out _ q1
      go_wp2_with fail
      go_round
      case rel => exact ⟨i + 1, by omega, by go_num, hBr.trans (q1.mono hBr.size), take_more HI.out HC.out hm⟩
      case measure => simp [intOf]; omega
    ·
     obtain rfl : i = k := by omega
     go_wp2_with fail
     go_ret
     exact ⟨ref9.ret_bool (by rw [all_good HI.out hk]; simp), HB2.out.trans (hBr.mono HB2.out.size)⟩
  ·
   rw [decide_eq_false hz] at NZ ⊢
   clear hz hbz
   have nz := fun w => NZ.out w
   go_wp2_with fail
   go_ret
   exact ⟨ref9.ret_bool (by simp), hB0⟩
 ·
  clear hbz
  go_wp2_with fail
  refine (CT.out _).mono ?_
  rintro e w2 ⟨p, rfl, hp, hB2, hA⟩
  have HA := Lh hA
  have HB2 := Lh (hB0.trans (hB2.mono hB0.size))
  clear hA hB0 hB2 CT
  go_wp2_with fail
  go_loopw [4] (fun iv wr => ∃ i : Nat, i ≤ k ∧ iv = .int .i64 (i : Int) ∧ Below w2.heap.size w2 wr ∧ Hid (∀ c ∈ L.take i, mayC c = true)) (fun iv _ => k - (intOf iv).toNat)
  case atStart => exact ⟨0, Nat.zero_le _, rfl, Below.refl _ _, fun c hc => by simp at hc⟩
  case round =>
   obtain ⟨i, hi, rfl, hBr, HI⟩ := hrel
   by_cases hlt : i < k
   ·
    obtain ⟨c, hc⟩ : ∃ c, L[i]? = some c := ⟨L[i]'(by omega), List.getElem?_eq_getElem _⟩
    have hok := HK.out c (List.mem_of_getElem? hc)
    have hA := HA.out i c hc
    have HC := Lh hc
    clear hc
    have cM := Lh (CM.out c hok)
    have HS : Hid (∀ wq, Below wr.heap.size wr wq → (wq.cell? ⟨p, i * 5, none⟩ = some (.int .u16 (c.v : Int)) ∧ wq.cell? ⟨p, i * 5 + 1, none⟩ = some (.int .u16 (c.w : Int)) ∧ wq.cell? ⟨p, i * 5 + 2, none⟩ = some (.int .u16 (c.l : Int)) ∧ wq.cell? ⟨p, i * 5 + 3, none⟩ = some (.int .i64 c.e) ∧ wq.cell? ⟨p, i * 5 + 4, none⟩ = some (.int .i64 c.k))) := fun wq hq => at5 (hA.below hp (hBr.trans (hq.mono hBr.size)))
    clear hA
    unfold cfV at *
    obtain ⟨cv, cw, cl, ce, ck⟩ := c
    dsimp only at *
    have q0 := Below.refl wr.heap.size wr
    have r0 := HS.out _ q0
    cases hm : mayC ⟨cv, cw, cl, ce, ck⟩
    ·
     rw [hm] at cM
     go_wp2_with fail
     refine (cM.out _).mono ?_
     rintro e y1 ⟨rfl, hY1⟩
     have q1 := q0.trans (hY1.mono q0.size)
     have r1 := HS.out _ q1
     go_wp2_with fail
     go_ret
     exact ⟨ref9.ret_bool (by rw [all_bad HC.out hm]; simp), HB2.out.trans ((hBr.trans (q1.mono hBr.size)).mono HB2.out.size)⟩
    ·
     rw [hm] at cM
     go_wp2_with fail
     refine (cM.out _).mono ?_
     rintro e y1 ⟨rfl, hY1⟩
     have q1 := q0.trans (hY1.mono q0.size)
     have r1 := HS.out _ q1
     go_wp2_with fail
     go_round
     case rel => exact ⟨i + 1, by omega, by go_num, hBr.trans (q1.mono hBr.size), take_more HI.out HC.out hm⟩
     case measure => simp [intOf]; omega
   ·
    obtain rfl : i = k := by omega
    go_wp2_with fail
    go_ret
    exact ⟨ref9.ret_bool (by rw [all_good HI.out hk]; simp), HB2.out.trans (hBr.mono HB2.out.size)⟩
theorem votes_fold {j : JtL} (hm : mayJ j = true) : unF j votF = (twoL j).foldl (fun s c => joinF s (joinF c.v c.w)) 0 := by
 obtain ⟨a1, a2, a3, _⟩ := may_parts (mayJ_a hm)
 have hb := fun ht => may_parts (mayJ_b hm ht)
 unfold unF twoL votF
 cases ht : j.two
 ·
  simp only [Bool.false_eq_true, if_false, List.foldl_cons, List.foldl_nil]
  rw [join_may a1 a2, join_may may_zero (by rw [may_or, a1, a2]; rfl), Nat.zero_or]
 ·
  obtain ⟨b1, b2, b3, _⟩ := hb ht
  simp only [if_true, List.foldl_cons, List.foldl_nil]
  rw [join_may a1 a2, join_may b1 b2, join_may may_zero (by rw [may_or, a1, a2]; rfl), Nat.zero_or, join_may (by rw [may_or, a1, a2]; rfl) (by rw [may_or, b1, b2]; rfl)]
theorem data_fold {j : JtL} (hm : mayJ j = true) : unF j datF = (twoL j).foldl (fun s c => joinF (joinF s c.v) c.l) 0 := by
 obtain ⟨a1, a2, a3, _⟩ := may_parts (mayJ_a hm)
 have hb := fun ht => may_parts (mayJ_b hm ht)
 unfold unF twoL datF
 cases ht : j.two
 ·
  simp only [Bool.false_eq_true, if_false, List.foldl_cons, List.foldl_nil]
  rw [join_may may_zero a1, Nat.zero_or, join_may a1 a3]
 ·
  obtain ⟨b1, b2, b3, _⟩ := hb ht
  have m1 : mayF (j.a.v ||| j.a.l) = true := by rw [may_or, a1, a3]; rfl
  simp only [if_true, List.foldl_cons, List.foldl_nil]
  rw [join_may may_zero a1, Nat.zero_or, join_may a1 a3, join_may m1 b1, join_may (by rw [may_or, m1, b1]; rfl) b3]
  simp only [Nat.or_assoc]
theorem voting_any (j : JtL) (w : World) (h : j.ok) (hm : mayJ j = true) : Calls Tryz.prog 71 #[jtV j] w fun e w' => e = .returned (.int .u16 ((unF j votF : Nat) : Int)) ∧ Below w.heap.size w w' := by
 have HK := Lh (two_ok h)
 have CT := Lh (fun w => two_any j w)
 have CV := Lh (fun (c : CfL) (hc : c.ok) w => votes_any c w hc)
 have CJ := Lh (fun (a b : Nat) (ha : a < 65536) (hb : b < 65536) w => ref9.join_any a b w ha hb)
 have HR : Hid (unF j votF = (twoL j).foldl (fun s c => joinF s (joinF c.v c.w)) 0) := votes_fold hm
 have HF := Lh (fun i (c : CfL) (hc : (twoL j)[i]? = some c) => fold_more (L := twoL j) (fun s c => joinF s (joinF c.v c.w)) hc)
 have h2 := two_len j
 rw [HR.out]
 clear HR h
 generalize twoL j = L at *
 obtain ⟨k, hk⟩ : ∃ k, L.length = k := ⟨_, rfl⟩
 rw [hk] at CT h2
 unfold jtV at *
 obtain ⟨⟨av, aw, al, ae, ak⟩, ⟨bv, bw, bl, be, bk⟩, t⟩ := j
 dsimp only at *
 have hB0 := (Below.refl w.heap.size w).alloc (Nat.le_refl _) (.cells #[.int .u16 (av : Int), .int .u16 (aw : Int), .int .u16 (al : Int), .int .i64 ae, .int .i64 ak, .int .u16 (bv : Int), .int .u16 (bw : Int), .int .u16 (bl : Int), .int .i64 be, .int .i64 bk, .bool t] 27)
 go_enter Tryz.func71, Tryz.ntmps71
 go_wp2_with fail
 refine (CT.out _).mono ?_
 rintro e w2 ⟨p, rfl, hp, hB2, hA⟩
 have HA := Lh hA
 have HB2 := Lh (hB0.trans (hB2.mono hB0.size))
 clear hA hB0 hB2 CT
 go_wp2_with fail
 go_loopw [3, 5] (fun sv iv wr => ∃ i : Nat, i ≤ k ∧ iv = .int .i64 (i : Int) ∧ Below w2.heap.size w2 wr ∧ ∃ s : Nat, sv = .int .u16 (s : Int) ∧ s < 65536 ∧ Hid (s = (L.take i).foldl (fun s c => joinF s (joinF c.v c.w)) 0)) (fun _ iv _ => k - (intOf iv).toNat)
 case atStart => exact ⟨0, Nat.zero_le _, rfl, Below.refl _ _, 0, rfl, by omega, rfl⟩
 case round =>
  obtain ⟨i, hi, rfl, hBr, s, rfl, hs, HI⟩ := hrel
  by_cases hlt : i < k
  ·
   obtain ⟨c, hc⟩ : ∃ c, L[i]? = some c := ⟨L[i]'(by omega), List.getElem?_eq_getElem _⟩
   have hok := HK.out c (List.mem_of_getElem? hc)
   have hA := HA.out i c hc
   have HC := Lh hc
   clear hc
   have cV := Lh (CV.out c hok)
   have cJ := Lh (CJ.out s (joinF c.v c.w) hs (join_lt hok.1 hok.2.1))
   have hl := join_lt hs (join_lt hok.1 hok.2.1)
   have HS : Hid (∀ wq, Below wr.heap.size wr wq → (wq.cell? ⟨p, i * 5, none⟩ = some (.int .u16 (c.v : Int)) ∧ wq.cell? ⟨p, i * 5 + 1, none⟩ = some (.int .u16 (c.w : Int)) ∧ wq.cell? ⟨p, i * 5 + 2, none⟩ = some (.int .u16 (c.l : Int)) ∧ wq.cell? ⟨p, i * 5 + 3, none⟩ = some (.int .i64 c.e) ∧ wq.cell? ⟨p, i * 5 + 4, none⟩ = some (.int .i64 c.k))) := fun wq hq => at5 (hA.below hp (hBr.trans (hq.mono hBr.size)))
   clear hA
   unfold cfV at *
   obtain ⟨cv, cw, cl, ce, ck⟩ := c
   dsimp only at *
   have q0 := Below.refl wr.heap.size wr
   have r0 := HS.out _ q0
   go_wp2_with fail
   refine (cV.out _).mono ?_
   rintro e y1 ⟨rfl, hY1⟩
   have q1 := q0.trans (hY1.mono q0.size)
   have r1 := HS.out _ q1
   go_wp2_with fail
   refine (cJ.out _).mono ?_
   rintro e y2 ⟨rfl, rfl⟩
   go_wp2_with fail
   go_round
   case rel => exact ⟨i + 1, by omega, by go_num, hBr.trans (q1.mono hBr.size), _, rfl, hl, by show _ = _; rw [HF.out i _ HC.out, ← HI.out]⟩
   case measure => simp [intOf]; omega
  ·
   obtain rfl : i = k := by omega
   have HV : Hid (s = L.foldl (fun s c => joinF s (joinF c.v c.w)) 0) := by show _ = _; rw [HI.out, ← hk, List.take_length]
   clear HI
   go_wp2_with fail
   go_ret
   exact ⟨ref9.ret_u16 (by rw [HV.out]), HB2.out.trans (hBr.mono HB2.out.size)⟩
theorem data_any (j : JtL) (w : World) (h : j.ok) (hm : mayJ j = true) : Calls Tryz.prog 165 #[jtV j] w fun e w' => e = .returned (.int .u16 ((unF j datF : Nat) : Int)) ∧ Below w.heap.size w w' := by
 have HK := Lh (two_ok h)
 have CT := Lh (fun w => two_any j w)
 have CV := Lh (fun (c : CfL) (hc : c.ok) w => votes_any c w hc)
 have CJ := Lh (fun (a b : Nat) (ha : a < 65536) (hb : b < 65536) w => ref9.join_any a b w ha hb)
 have HR : Hid (unF j datF = (twoL j).foldl (fun s c => joinF (joinF s c.v) c.l) 0) := data_fold hm
 have HF := Lh (fun i (c : CfL) (hc : (twoL j)[i]? = some c) => fold_more (L := twoL j) (fun s c => joinF (joinF s c.v) c.l) hc)
 have h2 := two_len j
 rw [HR.out]
 clear HR h
 generalize twoL j = L at *
 obtain ⟨k, hk⟩ : ∃ k, L.length = k := ⟨_, rfl⟩
 rw [hk] at CT h2
 unfold jtV at *
 obtain ⟨⟨av, aw, al, ae, ak⟩, ⟨bv, bw, bl, be, bk⟩, t⟩ := j
 dsimp only at *
 have hB0 := (Below.refl w.heap.size w).alloc (Nat.le_refl _) (.cells #[.int .u16 (av : Int), .int .u16 (aw : Int), .int .u16 (al : Int), .int .i64 ae, .int .i64 ak, .int .u16 (bv : Int), .int .u16 (bw : Int), .int .u16 (bl : Int), .int .i64 be, .int .i64 bk, .bool t] 27)
 go_enter Tryz.func165, Tryz.ntmps165
 go_wp2_with fail
 refine (CT.out _).mono ?_
 rintro e w2 ⟨p, rfl, hp, hB2, hA⟩
 have HA := Lh hA
 have HB2 := Lh (hB0.trans (hB2.mono hB0.size))
 clear hA hB0 hB2 CT
 go_wp2_with fail
 go_loopw [3, 5] (fun sv iv wr => ∃ i : Nat, i ≤ k ∧ iv = .int .i64 (i : Int) ∧ Below w2.heap.size w2 wr ∧ ∃ s : Nat, sv = .int .u16 (s : Int) ∧ s < 65536 ∧ Hid (s = (L.take i).foldl (fun s c => joinF (joinF s c.v) c.l) 0)) (fun _ iv _ => k - (intOf iv).toNat)
 case atStart => exact ⟨0, Nat.zero_le _, rfl, Below.refl _ _, 0, rfl, by omega, rfl⟩
 case round =>
  obtain ⟨i, hi, rfl, hBr, s, rfl, hs, HI⟩ := hrel
  by_cases hlt : i < k
  ·
   obtain ⟨c, hc⟩ : ∃ c, L[i]? = some c := ⟨L[i]'(by omega), List.getElem?_eq_getElem _⟩
   have hok := HK.out c (List.mem_of_getElem? hc)
   have hA := HA.out i c hc
   have HC := Lh hc
   clear hc
   have cA := Lh (CJ.out s c.v hs hok.1)
   have cB := Lh (CJ.out (joinF s c.v) c.l (join_lt hs hok.1) hok.2.2.1)
   have hl := join_lt (join_lt hs hok.1) hok.2.2.1
   have HS : Hid (∀ wq, Below wr.heap.size wr wq → (wq.cell? ⟨p, i * 5, none⟩ = some (.int .u16 (c.v : Int)) ∧ wq.cell? ⟨p, i * 5 + 1, none⟩ = some (.int .u16 (c.w : Int)) ∧ wq.cell? ⟨p, i * 5 + 2, none⟩ = some (.int .u16 (c.l : Int)) ∧ wq.cell? ⟨p, i * 5 + 3, none⟩ = some (.int .i64 c.e) ∧ wq.cell? ⟨p, i * 5 + 4, none⟩ = some (.int .i64 c.k))) := fun wq hq => at5 (hA.below hp (hBr.trans (hq.mono hBr.size)))
   clear hA
   unfold cfV at *
   obtain ⟨cv, cw, cl, ce, ck⟩ := c
   dsimp only at *
   have q0 := Below.refl wr.heap.size wr
   have r0 := HS.out _ q0
   go_upto_region 6 with (fail)
   have q1 := q0.drew
   refine wp_region_held_drew (S := fun wq => (wq.cell? ⟨p, i * 5, none⟩ = some (.int .u16 (cv : Int)) ∧ wq.cell? ⟨p, i * 5 + 1, none⟩ = some (.int .u16 (cw : Int)) ∧ wq.cell? ⟨p, i * 5 + 2, none⟩ = some (.int .u16 (cl : Int)) ∧ wq.cell? ⟨p, i * 5 + 3, none⟩ = some (.int .i64 ce) ∧ wq.cell? ⟨p, i * 5 + 4, none⟩ = some (.int .i64 ck))) (by kernel_rfl) ?s_rdata6 (fun hHeld => ?_)
   case s_rdata6 => exact HS.out _ q1
   iterate 6 (refine tx 0 _ ?_; try simp only [Act.put, ka, kb, kc])
   iterate 5 (refine tx 7 _ ?_; try simp only [Act.put, ka, kb, kc])
   refine rr [6] ?_
   refine rc (fun KQ hKQ => ?_) AllReadyH.nil
   go_simp
   refine (cA.out _).mono ?_
   rintro e y2 ⟨rfl, rfl⟩
   have r2 := HS.out _ q1
   go_wp2_with fail
   refine hKQ.out _ _ (r2) (fun _ => ?_)
   clear hKQ KQ
   try simp only [Act.put, ka, kb, kc]
   refine rr [12] ?_
   refine rc (fun KQ hKQ => ?_) AllReadyH.nil
   go_simp
   refine (cB.out _).mono ?_
   rintro e y3 ⟨rfl, rfl⟩
   have r3 := HS.out _ q1
   go_wp2_with fail
   refine hKQ.out _ _ (r3) (fun _ => ?_)
   clear hKQ KQ
   try simp only [Act.put, ka, kb, kc]
   refine tj 13 _ ?_
   try simp only [Act.put, ka, kb, kc]
   refine wpAnyH_done (by kernel_rfl) ?_ _
   go_wp2_with fail
   go_round
   case rel => exact ⟨i + 1, by omega, by go_num, hBr.trans (q1.mono hBr.size), _, rfl, hl, by show _ = _; rw [HF.out i _ HC.out, ← HI.out]⟩
   case measure => simp [intOf]; omega
  ·
   obtain rfl : i = k := by omega
   have HV : Hid (s = L.foldl (fun s c => joinF (joinF s c.v) c.l) 0) := by show _ = _; rw [HI.out, ← hk, List.take_length]
   clear HI
   go_wp2_with fail
   go_ret
   exact ⟨ref9.ret_u16 (by rw [HV.out]), HB2.out.trans (hBr.mono HB2.out.size)⟩
theorem members_join {j : JtL} (hm : mayJ j = true) : unF j memF = joinF (unF j votF) (unF j datF) := by
 have ha := may_parts (mayJ_a hm)
 have hb := fun ht => may_parts (mayJ_b hm ht)
 obtain ⟨a1, a2, a3, _⟩ := ha
 have bits : ∀ v x l : Nat, v ||| x ||| l = (v ||| x) ||| (v ||| l) := fun v x l => by
  apply Nat.eq_of_testBit_eq
  intro i
  simp only [Nat.testBit_or]
  cases v.testBit i <;> cases x.testBit i <;> simp
 have bits2 : ∀ v x l p q r : Nat, (v ||| x ||| l) ||| (p ||| q ||| r) = ((v ||| x) ||| (p ||| q)) ||| ((v ||| l) ||| (p ||| r)) := fun v x l p q r => by
  apply Nat.eq_of_testBit_eq
  intro i
  simp only [Nat.testBit_or]
  cases v.testBit i <;> cases x.testBit i <;> cases l.testBit i <;> cases p.testBit i <;> cases q.testBit i <;> simp
 unfold unF memF votF datF
 cases ht : j.two
 ·
  simp only [Bool.false_eq_true, if_false]
  rw [join_may (by rw [may_or, a1, a2]; rfl) (by rw [may_or, a1, a3]; rfl)]
  exact bits _ _ _
 ·
  obtain ⟨b1, b2, b3, _⟩ := hb ht
  simp only [if_true]
  rw [join_may (by simp [may_or, a1, a2, b1, b2]) (by simp [may_or, a1, a3, b1, b3])]
  exact bits2 _ _ _ _ _ _
theorem members_any (j : JtL) (w : World) (h : j.ok) (hm : mayJ j = true) : Calls Tryz.prog 123 #[jtV j] w fun e w' => e = .returned (.int .u16 ((unF j memF : Nat) : Int)) ∧ Below w.heap.size w w' := by
 have CV := Lh (fun w => voting_any j w h hm)
 have CD := Lh (fun w => data_any j w h hm)
 have hv : unF j votF < 65536 := un_lt (vot_lt h.1) (vot_lt h.2)
 have hd : unF j datF < 65536 := un_lt (dat_lt h.1) (dat_lt h.2)
 have CJ := Lh (fun w => ref9.join_any (unF j votF) (unF j datF) w hv hd)
 have HR := Lh (members_join hm)
 rw [HR.out]
 generalize unF j votF = sv at *
 generalize unF j datF = sd at *
 unfold jtV at *
 clear HR h hm
 obtain ⟨⟨av, aw, al, ae, ak⟩, ⟨bv, bw, bl, be, bk⟩, t⟩ := j
 dsimp only at *
 have k0 : Blk 27 (w.alloc (.cells #[.int .u16 (av : Int), .int .u16 (aw : Int), .int .u16 (al : Int), .int .i64 ae, .int .i64 ak, .int .u16 (bv : Int), .int .u16 (bw : Int), .int .u16 (bl : Int), .int .i64 be, .int .i64 bk, .bool t] 27)) w.heap.size [.int .u16 (av : Int), .int .u16 (aw : Int), .int .u16 (al : Int), .int .i64 ae, .int .i64 ak, .int .u16 (bv : Int), .int .u16 (bw : Int), .int .u16 (bl : Int), .int .i64 be, .int .i64 bk, .bool t] := heap_alloc_new w _
 have HB := Lh ((Below.refl w.heap.size w).alloc (Nat.le_refl _) (.cells #[.int .u16 (av : Int), .int .u16 (aw : Int), .int .u16 (al : Int), .int .i64 ae, .int .i64 ak, .int .u16 (bv : Int), .int .u16 (bw : Int), .int .u16 (bl : Int), .int .i64 be, .int .i64 bk, .bool t] 27))
 have HS : Hid (∀ wq, Below (w.alloc (.cells #[.int .u16 (av : Int), .int .u16 (aw : Int), .int .u16 (al : Int), .int .i64 ae, .int .i64 ak, .int .u16 (bv : Int), .int .u16 (bw : Int), .int .u16 (bl : Int), .int .i64 be, .int .i64 bk, .bool t] 27)).heap.size (w.alloc (.cells #[.int .u16 (av : Int), .int .u16 (aw : Int), .int .u16 (al : Int), .int .i64 ae, .int .i64 ak, .int .u16 (bv : Int), .int .u16 (bw : Int), .int .u16 (bl : Int), .int .i64 be, .int .i64 bk, .bool t] 27)) wq → (wq.cell? ⟨w.heap.size, 0, none⟩ = some (.int .u16 (av : Int)) ∧ wq.cell? ⟨w.heap.size, 1, none⟩ = some (.int .u16 (aw : Int)) ∧ wq.cell? ⟨w.heap.size, 2, none⟩ = some (.int .u16 (al : Int)) ∧ wq.cell? ⟨w.heap.size, 3, none⟩ = some (.int .i64 ae) ∧ wq.cell? ⟨w.heap.size, 4, none⟩ = some (.int .i64 ak) ∧ wq.cell? ⟨w.heap.size, 5, none⟩ = some (.int .u16 (bv : Int)) ∧ wq.cell? ⟨w.heap.size, 6, none⟩ = some (.int .u16 (bw : Int)) ∧ wq.cell? ⟨w.heap.size, 7, none⟩ = some (.int .u16 (bl : Int)) ∧ wq.cell? ⟨w.heap.size, 8, none⟩ = some (.int .i64 be) ∧ wq.cell? ⟨w.heap.size, 9, none⟩ = some (.int .i64 bk) ∧ wq.cell? ⟨w.heap.size, 10, none⟩ = some (.bool t))) := fun wq hq => blk11 (k0.below hq k0.lt)
 have q0 := Below.refl (w.alloc (.cells #[.int .u16 (av : Int), .int .u16 (aw : Int), .int .u16 (al : Int), .int .i64 ae, .int .i64 ak, .int .u16 (bv : Int), .int .u16 (bw : Int), .int .u16 (bl : Int), .int .i64 be, .int .i64 bk, .bool t] 27)).heap.size (w.alloc (.cells #[.int .u16 (av : Int), .int .u16 (aw : Int), .int .u16 (al : Int), .int .i64 ae, .int .i64 ak, .int .u16 (bv : Int), .int .u16 (bw : Int), .int .u16 (bl : Int), .int .i64 be, .int .i64 bk, .bool t] 27))
 clear k0
 go_enter Tryz.func123, Tryz.ntmps123
 go_upto_region 1 with (fail)
 generalize (w.alloc (.cells #[.int .u16 (av : Int), .int .u16 (aw : Int), .int .u16 (al : Int), .int .i64 ae, .int .i64 ak, .int .u16 (bv : Int), .int .u16 (bw : Int), .int .u16 (bl : Int), .int .i64 be, .int .i64 bk, .bool t] 27)) = w1 at *
 have q1 := q0.drew
 refine wp_region_held_drew (S := fun wq => (wq.cell? ⟨w.heap.size, 0, none⟩ = some (.int .u16 (av : Int)) ∧ wq.cell? ⟨w.heap.size, 1, none⟩ = some (.int .u16 (aw : Int)) ∧ wq.cell? ⟨w.heap.size, 2, none⟩ = some (.int .u16 (al : Int)) ∧ wq.cell? ⟨w.heap.size, 3, none⟩ = some (.int .i64 ae) ∧ wq.cell? ⟨w.heap.size, 4, none⟩ = some (.int .i64 ak) ∧ wq.cell? ⟨w.heap.size, 5, none⟩ = some (.int .u16 (bv : Int)) ∧ wq.cell? ⟨w.heap.size, 6, none⟩ = some (.int .u16 (bw : Int)) ∧ wq.cell? ⟨w.heap.size, 7, none⟩ = some (.int .u16 (bl : Int)) ∧ wq.cell? ⟨w.heap.size, 8, none⟩ = some (.int .i64 be) ∧ wq.cell? ⟨w.heap.size, 9, none⟩ = some (.int .i64 bk) ∧ wq.cell? ⟨w.heap.size, 10, none⟩ = some (.bool t))) (by kernel_rfl) ?s_rmem1 (fun hHeld => ?_)
 case s_rmem1 => exact HS.out _ q1
 refine tj 0 _ ?_
 try simp only [Act.put, ka, kb, kc]
 refine tj 2 _ ?_
 try simp only [Act.put, ka, kb, kc]
 refine rr [1] ?_
 refine rc (fun KQ hKQ => ?_) AllReadyH.nil
 go_simp
 refine (CV.out _).mono ?_
 rintro e y2 ⟨rfl, hY2⟩
 have q2 := q1.trans (hY2.mono q1.size)
 have r2 := HS.out _ q2
 go_wp2_with fail
 refine hKQ.out _ _ (r2) (fun _ => ?_)
 clear hKQ KQ
 try simp only [Act.put, ka, kb, kc]
 refine rr [3] ?_
 refine rc (fun KQ hKQ => ?_) AllReadyH.nil
 go_simp
 refine (CD.out _).mono ?_
 rintro e y3 ⟨rfl, hY3⟩
 have q3 := q2.trans (hY3.mono q2.size)
 have r3 := HS.out _ q3
 go_wp2_with fail
 refine hKQ.out _ _ (r3) (fun _ => ?_)
 clear hKQ KQ
 try simp only [Act.put, ka, kb, kc]
 refine rr [4] ?_
 refine rc (fun KQ hKQ => ?_) AllReadyH.nil
 go_simp
 refine (CJ.out _).mono ?_
 rintro e y4 ⟨rfl, rfl⟩
 have r4 := HS.out _ q3
 go_wp2_with fail
 refine hKQ.out _ _ (r4) (fun _ => ?_)
 clear hKQ KQ
 try simp only [Act.put, ka, kb, kc]
 refine tj 5 _ ?_
 try simp only [Act.put, ka, kb, kc]
 refine wpAnyH_done (by kernel_rfl) ?_ _
 go_wp2_with fail
 go_ret
 exact ⟨rfl, HB.out.trans (q3.mono HB.out.size)⟩
theorem led_any (j : JtL) (n : Int) : ledF j n = !((twoL j).all fun c => !hasF c.v n) := by
 unfold ledF unF twoL
 cases j.two
 · simp
 · simp [has_or]
theorem leads_any (j : JtL) (n : Int) (w : World) (h : j.ok) (h0 : -9223372036854775808 ≤ n) (h1 : n ≤ 9223372036854775807) : Calls Tryz.prog 67 #[jtV j, .int .i64 n] w fun e w' => e = .returned (.bool (ledF j n)) ∧ Below w.heap.size w w' := by
 have HK := Lh (two_ok h)
 have CT := Lh (fun w => two_any j w)
 have CH := Lh (fun (c : CfL) (hc : c.ok) w => ref9.has_any c.v n w hc.1 h0 h1)
 have HR : Hid (ledF j n = !((twoL j).all fun c => !hasF c.v n)) := led_any j n
 have h2 := two_len j
 rw [HR.out]
 clear HR h
 generalize twoL j = L at *
 obtain ⟨k, hk⟩ : ∃ k, L.length = k := ⟨_, rfl⟩
 rw [hk] at CT h2
 unfold jtV at *
 obtain ⟨⟨av, aw, al, ae, ak⟩, ⟨bv, bw, bl, be, bk⟩, t⟩ := j
 dsimp only at *
 have hB0 := (Below.refl w.heap.size w).alloc (Nat.le_refl _) (.cells #[.int .u16 (av : Int), .int .u16 (aw : Int), .int .u16 (al : Int), .int .i64 ae, .int .i64 ak, .int .u16 (bv : Int), .int .u16 (bw : Int), .int .u16 (bl : Int), .int .i64 be, .int .i64 bk, .bool t] 27)
 go_enter Tryz.func67, Tryz.ntmps67
 go_wp2_with fail
 refine (CT.out _).mono ?_
 rintro e w2 ⟨p, rfl, hp, hB2, hA⟩
 have HA := Lh hA
 have HB2 := Lh (hB0.trans (hB2.mono hB0.size))
 clear hA hB0 hB2 CT
 go_wp2_with fail
 go_loopw [6] (fun iv wr => ∃ i : Nat, i ≤ k ∧ iv = .int .i64 (i : Int) ∧ Below w2.heap.size w2 wr ∧ Hid (∀ c ∈ L.take i, (fun c => !hasF c.v n) c = true)) (fun iv _ => k - (intOf iv).toNat)
 case atStart => exact ⟨0, Nat.zero_le _, rfl, Below.refl _ _, fun c hc => by simp at hc⟩
 case round =>
  obtain ⟨i, hi, rfl, hBr, HI⟩ := hrel
  by_cases hlt : i < k
  ·
   obtain ⟨c, hc⟩ : ∃ c, L[i]? = some c := ⟨L[i]'(by omega), List.getElem?_eq_getElem _⟩
   have hok := HK.out c (List.mem_of_getElem? hc)
   have hA := HA.out i c hc
   have HC := Lh hc
   clear hc
   have cH := Lh (CH.out c hok)
   have HS : Hid (∀ wq, Below wr.heap.size wr wq → (wq.cell? ⟨p, i * 5, none⟩ = some (.int .u16 (c.v : Int)) ∧ wq.cell? ⟨p, i * 5 + 1, none⟩ = some (.int .u16 (c.w : Int)) ∧ wq.cell? ⟨p, i * 5 + 2, none⟩ = some (.int .u16 (c.l : Int)) ∧ wq.cell? ⟨p, i * 5 + 3, none⟩ = some (.int .i64 c.e) ∧ wq.cell? ⟨p, i * 5 + 4, none⟩ = some (.int .i64 c.k))) := fun wq hq => at5 (hA.below hp (hBr.trans (hq.mono hBr.size)))
   clear hA
   unfold cfV at *
   obtain ⟨cv, cw, cl, ce, ck⟩ := c
   dsimp only at *
   have q0 := Below.refl wr.heap.size wr
   have r0 := HS.out _ q0
   cases hn : hasF cv n
   ·
    rw [hn] at cH
    go_wp2_with fail
    refine (cH.out _).mono ?_
    rintro e y1 ⟨rfl, rfl⟩
    go_wp2_with fail
    go_round
    case rel => exact ⟨i + 1, by omega, by go_num, hBr.trans (q0.mono hBr.size), take_more HI.out HC.out (by rw [hn]; rfl)⟩
    case measure => simp [intOf]; omega
   ·
    rw [hn] at cH
    go_wp2_with fail
    refine (cH.out _).mono ?_
    rintro e y1 ⟨rfl, rfl⟩
    go_wp2_with fail
    go_ret
    exact ⟨ref9.ret_bool (by rw [all_bad (P := fun c => !hasF c.v n) HC.out (by rw [hn]; rfl)]; rfl), HB2.out.trans (hBr.mono HB2.out.size)⟩
  ·
   obtain rfl : i = k := by omega
   go_wp2_with fail
   go_ret
   exact ⟨ref9.ret_bool (by rw [all_good HI.out hk]; rfl), HB2.out.trans (hBr.mono HB2.out.size)⟩
end Go.Proofs.YtegnfkbmlalkeaaGreat.ref10
