/- What the document's answer to conf (antipoderef10) comes to: who votes, what may be. Conditions: sets are uint16 values, numbers int. -/
import Derived.Deep.RegionHeld3
import Derived.Deep.Cut
import Derived.Test.YtegnfkbmlalkeaaGreatSpJ1
import Derived.Test.YtegnfkbmlalkeaaGreatSpJ0
set_option linter.unusedVariables false
set_option maxHeartbeats 16000000
set_option maxRecDepth 10000
namespace Go.Proofs.YtegnfkbmlalkeaaGreat.ref10
open Go Go.RowKit kit nums se cf
theorem votes_any (c : CfL) (w : World) (h : c.ok) : Calls Tryz.prog 44 #[cfV c] w fun e w' => e = .returned (.int .u16 ((joinF c.v c.w : Nat) : Int)) ∧ Below w.heap.size w w' := by
 have CJ := Lh (fun w => ref9.join_any c.v c.w w h.1 h.2.1)
 unfold cfV
 obtain ⟨cv, cw, cl, ce, ck⟩ := c
 dsimp only at *
 have hB := (Below.refl w.heap.size w).alloc (Nat.le_refl _) (.cells #[.int .u16 (cv : Int), .int .u16 (cw : Int), .int .u16 (cl : Int), .int .i64 ce, .int .i64 ck] 25)
 go_enter Tryz.func44, Tryz.ntmps44
 go_wp2_with fail
 refine (CJ.out _).mono ?_
 rintro e w2 ⟨rfl, rfl⟩
 go_wp2_with fail
 go_ret
 exact ⟨rfl, hB⟩
theorem may_ref (c : CfL) : mayC c = (mayF c.v && mayF c.w && mayF c.l && (decide (cntF (joinF (joinF c.v c.w) c.l) = cntF c.v + cntF c.w + cntF c.l) && decide (cntF c.v ≠ 0) && (mayQ c.e (cntF (joinF c.v c.w)) && mayQ c.k (cntF (joinF c.v c.w)) && decide ((cntF (joinF c.v c.w) : Int) < c.e + c.k) && decide ((cntF (joinF c.v c.w) : Int) < 2 * c.e)))) := by
 unfold mayC quoB memF
 rw [may_or, may_or]
 cases h1 : mayF c.v
 · rfl
 ·
  cases h2 : mayF c.w
  · rfl
  ·
   cases h3 : mayF c.l
   · rfl
   ·
    rw [join_may h1 h2, apart_cnt h1 h2 h3]
    have hz : decide (c.v ≠ 0) = decide (cntF c.v ≠ 0) := by rw [decide_eq_decide]; exact not_congr (cnt_eq_zero h1).symm
    rw [hz]
    simp only [votF, Bool.true_and, Bool.and_assoc]
    rfl
theorem may_any (c : CfL) (w : World) (h : c.ok) : Calls Tryz.prog 100 #[cfV c] w fun e w' => e = .returned (.bool (mayC c)) ∧ Below w.heap.size w w' := by
 have CV := Lh (fun w => votes_any c w h)
 have C1 := Lh (fun w => ref9.may_any c.v w h.1)
 have C2 := Lh (fun w => ref9.may_any c.w w h.2.1)
 have C3 := Lh (fun w => ref9.may_any c.l w h.2.2.1)
 have CJ := Lh (fun w => ref9.join_any (joinF c.v c.w) c.l w (join_lt h.1 h.2.1) h.2.2.1)
 have CA := Lh (fun w => ref9.count_any (joinF (joinF c.v c.w) c.l) w (join_lt (join_lt h.1 h.2.1) h.2.2.1))
 have CN := Lh (fun w => ref9.count_any (joinF c.v c.w) w (join_lt h.1 h.2.1))
 have N1 := Lh (fun w => ref9.count_any c.v w h.1)
 have N2 := Lh (fun w => ref9.count_any c.w w h.2.1)
 have N3 := Lh (fun w => ref9.count_any c.l w h.2.2.1)
 have HR : Hid (mayC c = (mayF c.v && mayF c.w && mayF c.l && (decide (cntF (joinF (joinF c.v c.w) c.l) = cntF c.v + cntF c.w + cntF c.l) && decide (cntF c.v ≠ 0) && (mayQ c.e (cntF (joinF c.v c.w)) && mayQ c.k (cntF (joinF c.v c.w)) && decide ((cntF (joinF c.v c.w) : Int) < c.e + c.k) && decide ((cntF (joinF c.v c.w) : Int) < 2 * c.e))))) := Lh (may_ref c)
 have l1 := cntF_le c.v
 have l2 := cntF_le c.w
 have l3 := cntF_le c.l
 have l4 := cntF_le (joinF c.v c.w)
 have l5 := cntF_le (joinF (joinF c.v c.w) c.l)
 have he := h.2.2.2.1
 have hk := h.2.2.2.2
 unfold cfV at *
 obtain ⟨cv, cw, cl, ce, ck⟩ := c
 dsimp only at *
 have k0 : Blk 25 (w.alloc (.cells #[.int .u16 (cv : Int), .int .u16 (cw : Int), .int .u16 (cl : Int), .int .i64 ce, .int .i64 ck] 25)) w.heap.size [.int .u16 (cv : Int), .int .u16 (cw : Int), .int .u16 (cl : Int), .int .i64 ce, .int .i64 ck] := heap_alloc_new w _
 have HB := Lh ((Below.refl w.heap.size w).alloc (Nat.le_refl _) (.cells #[.int .u16 (cv : Int), .int .u16 (cw : Int), .int .u16 (cl : Int), .int .i64 ce, .int .i64 ck] 25))
 have HS : Hid (∀ wq, Below (w.alloc (.cells #[.int .u16 (cv : Int), .int .u16 (cw : Int), .int .u16 (cl : Int), .int .i64 ce, .int .i64 ck] 25)).heap.size (w.alloc (.cells #[.int .u16 (cv : Int), .int .u16 (cw : Int), .int .u16 (cl : Int), .int .i64 ce, .int .i64 ck] 25)) wq → (wq.cell? ⟨w.heap.size, 0, none⟩ = some (.int .u16 (cv : Int)) ∧ wq.cell? ⟨w.heap.size, 1, none⟩ = some (.int .u16 (cw : Int)) ∧ wq.cell? ⟨w.heap.size, 2, none⟩ = some (.int .u16 (cl : Int)) ∧ wq.cell? ⟨w.heap.size, 3, none⟩ = some (.int .i64 ce) ∧ wq.cell? ⟨w.heap.size, 4, none⟩ = some (.int .i64 ck))) := fun wq hq => blk5 (k0.below hq k0.lt)
 have q0 := Below.refl (w.alloc (.cells #[.int .u16 (cv : Int), .int .u16 (cw : Int), .int .u16 (cl : Int), .int .i64 ce, .int .i64 ck] 25)).heap.size (w.alloc (.cells #[.int .u16 (cv : Int), .int .u16 (cw : Int), .int .u16 (cl : Int), .int .i64 ce, .int .i64 ck] 25))
 clear k0 h
 generalize cntF (joinF (joinF cv cw) cl) = na at *
 generalize cntF (joinF cv cw) = n at *
 generalize cntF cv = n1 at *
 generalize cntF cw = n2 at *
 generalize cntF cl = n3 at *
 generalize joinF (joinF cv cw) cl = sa at *
 generalize joinF cv cw = sv at *
 generalize mayF cv = m1 at *
 generalize mayF cw = m2 at *
 generalize mayF cl = m3 at *
 rw [HR.out]
 unfold mayQ
 have hq := q0.size
 go_enter Tryz.func100, Tryz.ntmps100
 go_upto_region 1 with (fail)
 generalize (w.alloc (.cells #[.int .u16 (cv : Int), .int .u16 (cw : Int), .int .u16 (cl : Int), .int .i64 ce, .int .i64 ck] 25)) = w1 at *
 have r0 := HS.out _ q0
 cases m1
 case false =>
  go_wp2_with fail
  refine (C1.out _).mono ?_
  rintro e y1 ⟨rfl, hY1⟩
  have q1 := q0.trans (hY1.mono q0.size)
  have r1 := HS.out _ q1
  go_wp2_with fail
  go_ret
  exact ⟨ref9.ret_bool (by simp), HB.out.trans (q1.mono HB.out.size)⟩
 cases m2
 case true.false =>
  go_wp2_with fail
  refine (C1.out _).mono ?_
  rintro e y1 ⟨rfl, hY1⟩
  have q1 := q0.trans (hY1.mono q0.size)
  have r1 := HS.out _ q1
  go_wp2_with fail
  refine (C2.out _).mono ?_
  rintro e y2 ⟨rfl, hY2⟩
  have q2 := q1.trans (hY2.mono q1.size)
  have r2 := HS.out _ q2
  go_wp2_with fail
  go_ret
  exact ⟨ref9.ret_bool (by simp), HB.out.trans (q2.mono HB.out.size)⟩
 cases m3
 case true.true.false =>
  go_wp2_with fail
  refine (C1.out _).mono ?_
  rintro e y1 ⟨rfl, hY1⟩
  have q1 := q0.trans (hY1.mono q0.size)
  have r1 := HS.out _ q1
  go_wp2_with fail
  refine (C2.out _).mono ?_
  rintro e y2 ⟨rfl, hY2⟩
  have q2 := q1.trans (hY2.mono q1.size)
  have r2 := HS.out _ q2
  go_wp2_with fail
  refine (C3.out _).mono ?_
  rintro e y3 ⟨rfl, hY3⟩
  have q3 := q2.trans (hY3.mono q2.size)
  have r3 := HS.out _ q3
  go_wp2_with fail
  go_ret
  exact ⟨ref9.ret_bool (by simp), HB.out.trans (q3.mono HB.out.size)⟩
 go_wp2_with fail
 refine (C1.out _).mono ?_
 rintro e y1 ⟨rfl, hY1⟩
 have q1 := q0.trans (hY1.mono q0.size)
 have r1 := HS.out _ q1
 go_wp2_with fail
 refine (C2.out _).mono ?_
 rintro e y2 ⟨rfl, hY2⟩
 have q2 := q1.trans (hY2.mono q1.size)
 have r2 := HS.out _ q2
 go_wp2_with fail
 refine (C3.out _).mono ?_
 rintro e y3 ⟨rfl, hY3⟩
 have q3 := q2.trans (hY3.mono q2.size)
 have r3 := HS.out _ q3
 go_upto_region 3 with (fail)
 have q4 := q3.drew
 refine wp_region_held_drew (S := fun wq => (wq.cell? ⟨w.heap.size, 0, none⟩ = some (.int .u16 (cv : Int)) ∧ wq.cell? ⟨w.heap.size, 1, none⟩ = some (.int .u16 (cw : Int)) ∧ wq.cell? ⟨w.heap.size, 2, none⟩ = some (.int .u16 (cl : Int)) ∧ wq.cell? ⟨w.heap.size, 3, none⟩ = some (.int .i64 ce) ∧ wq.cell? ⟨w.heap.size, 4, none⟩ = some (.int .i64 ck))) (by kernel_rfl) ?s_rmay3 (fun hHeld => ?_)
 case s_rmay3 => exact HS.out _ q4
 refine tj 0 _ ?_
 try simp only [Act.put, ka, kb, kc]
 iterate 2 (refine tx 2 _ ?_; try simp only [Act.put, ka, kb, kc])
 refine rr [1] ?_
 refine rc (fun KQ hKQ => ?_) AllReadyH.nil
 go_simp
 refine (CV.out _).mono ?_
 rintro e y5 ⟨rfl, hY5⟩
 have q5 := q4.trans (hY5.mono q4.size)
 have r5 := HS.out _ q5
 go_wp2_with fail
 refine hKQ.out _ _ (r5) (fun _ => ?_)
 clear hKQ KQ
 try simp only [Act.put, ka, kb, kc]
 refine rr [4] ?_
 refine rc (fun KQ hKQ => ?_) AllReadyH.nil
 go_simp
 refine (CJ.out _).mono ?_
 rintro e y6 ⟨rfl, rfl⟩
 have r6 := HS.out _ q5
 go_wp2_with fail
 refine hKQ.out _ _ (r6) (fun _ => ?_)
 clear hKQ KQ
 try simp only [Act.put, ka, kb, kc]
 refine tj 5 _ ?_
 try simp only [Act.put, ka, kb, kc]
 refine wpAnyH_done (by kernel_rfl) ?_ _
 go_wp2_with fail
 refine (CV.out _).mono ?_
 rintro e y7 ⟨rfl, hY7⟩
 have q7 := q5.trans (hY7.mono q5.size)
 have r7 := HS.out _ q7
 go_wp2_with fail
 refine (CN.out _).mono ?_
 rintro e y8 ⟨rfl, hY8⟩
 have q8 := q7.trans (hY8.mono q7.size)
 have r8 := HS.out _ q8
 go_upto_region 5 with (fail)
 have u1 : IntKind.i64.wrap ((n1 : Int) + n2) = (n1 : Int) + n2 := by simp [IntKind.wrap, IntKind.bits, IntKind.signed]; omega
 have u2 : IntKind.i64.wrap ((n1 : Int) + n2 + n3) = (n1 : Int) + n2 + n3 := by simp [IntKind.wrap, IntKind.bits, IntKind.signed]; omega
 by_cases hs : na = n1 + n2 + n3
 ·
  by_cases hz : n1 = 0
  ·
   have g1 : ((na : Int) != (n1 : Int) + n2 + n3) = false := by rw [bne_eq_false_iff_eq]; omega
   have g2 : ((n1 : Int) == 0) = true := by rw [beq_iff_eq]; omega
   have HZ := Lh hz
   have HZS := Lh hs
   clear hz hs
   have q9 := q8.drew
   refine wp_region_held_drew (S := fun wq => (wq.cell? ⟨w.heap.size, 0, none⟩ = some (.int .u16 (cv : Int)) ∧ wq.cell? ⟨w.heap.size, 1, none⟩ = some (.int .u16 (cw : Int)) ∧ wq.cell? ⟨w.heap.size, 2, none⟩ = some (.int .u16 (cl : Int)) ∧ wq.cell? ⟨w.heap.size, 3, none⟩ = some (.int .i64 ce) ∧ wq.cell? ⟨w.heap.size, 4, none⟩ = some (.int .i64 ck))) (by kernel_rfl) ?s_rmay5a (fun hHeld => ?_)
   case s_rmay5a => exact HS.out _ q9
   refine tj 0 _ ?_
   try simp only [Act.put, ka, kb, kc]
   iterate 2 (refine tx 2 _ ?_; try simp only [Act.put, ka, kb, kc])
   iterate 2 (refine tx 5 _ ?_; try simp only [Act.put, ka, kb, kc])
   iterate 2 (refine tx 9 _ ?_; try simp only [Act.put, ka, kb, kc])
   refine rr [1] ?_
   refine rc (fun KQ hKQ => ?_) AllReadyH.nil
   go_simp
   refine (CA.out _).mono ?_
   rintro e y10 ⟨rfl, hY10⟩
   have q10 := q9.trans (hY10.mono q9.size)
   have r10 := HS.out _ q10
   go_wp2_with fail
   refine hKQ.out _ _ (r10) (fun _ => ?_)
   clear hKQ KQ
   try simp only [Act.put, ka, kb, kc]
   refine rr [4] ?_
   refine rc (fun KQ hKQ => ?_) AllReadyH.nil
   go_simp
   refine (N1.out _).mono ?_
   rintro e y11 ⟨rfl, hY11⟩
   have q11 := q10.trans (hY11.mono q10.size)
   have r11 := HS.out _ q11
   go_wp2_with fail
   refine hKQ.out _ _ (r11) (fun _ => ?_)
   clear hKQ KQ
   try simp only [Act.put, ka, kb, kc]
   refine rr [7] ?_
   refine rc (fun KQ hKQ => ?_) AllReadyH.nil
   go_simp
   refine (N2.out _).mono ?_
   rintro e y12 ⟨rfl, hY12⟩
   have q12 := q11.trans (hY12.mono q11.size)
   have r12 := HS.out _ q12
   go_wp2_with fail
   refine hKQ.out _ _ (r12) (fun _ => ?_)
   clear hKQ KQ
   try simp only [Act.put, ka, kb, kc]
   refine tj 8 _ ?_
   try simp only [Act.put, ka, kb, kc]
   refine rr [11] ?_
   refine rc (fun KQ hKQ => ?_) AllReadyH.nil
   go_simp
   refine (N3.out _).mono ?_
   rintro e y13 ⟨rfl, hY13⟩
   have q13 := q12.trans (hY13.mono q12.size)
   have r13 := HS.out _ q13
   go_wp2_with fail
   refine hKQ.out _ _ (r13) (fun _ => ?_)
   clear hKQ KQ
   try simp only [Act.put, ka, kb, kc]
   iterate 5 (refine tx 12 _ ?_; try simp only [Act.put, ka, kb, kc])
   refine rr [17] ?_
   refine rc (fun KQ hKQ => ?_) AllReadyH.nil
   go_simp
   refine (N1.out _).mono ?_
   rintro e y14 ⟨rfl, hY14⟩
   have q14 := q13.trans (hY14.mono q13.size)
   have r14 := HS.out _ q14
   go_wp2_with fail
   refine hKQ.out _ _ (r14) (fun _ => ?_)
   clear hKQ KQ
   try simp only [Act.put, ka, kb, kc]
   iterate 2 (refine tx 18 _ ?_; try simp only [Act.put, ka, kb, kc])
   refine wpAnyH_done (by kernel_rfl) ?_ _
   go_wp2_with fail
   go_ret
   exact ⟨ref9.ret_bool (by simp [HZ.out]), HB.out.trans (q14.mono HB.out.size)⟩
  ·
   have g1 : ((na : Int) != (n1 : Int) + n2 + n3) = false := by rw [bne_eq_false_iff_eq]; omega
   have g2 : ((n1 : Int) == 0) = false := by rw [beq_eq_false_iff_ne]; omega
   have HZ := Lh hz
   have HZS := Lh hs
   clear hz hs
   have q9 := q8.drew
   refine wp_region_held_drew (S := fun wq => (wq.cell? ⟨w.heap.size, 0, none⟩ = some (.int .u16 (cv : Int)) ∧ wq.cell? ⟨w.heap.size, 1, none⟩ = some (.int .u16 (cw : Int)) ∧ wq.cell? ⟨w.heap.size, 2, none⟩ = some (.int .u16 (cl : Int)) ∧ wq.cell? ⟨w.heap.size, 3, none⟩ = some (.int .i64 ce) ∧ wq.cell? ⟨w.heap.size, 4, none⟩ = some (.int .i64 ck))) (by kernel_rfl) ?s_rmay5b (fun hHeld => ?_)
   case s_rmay5b => exact HS.out _ q9
   refine tj 0 _ ?_
   try simp only [Act.put, ka, kb, kc]
   iterate 2 (refine tx 2 _ ?_; try simp only [Act.put, ka, kb, kc])
   iterate 2 (refine tx 5 _ ?_; try simp only [Act.put, ka, kb, kc])
   iterate 2 (refine tx 9 _ ?_; try simp only [Act.put, ka, kb, kc])
   refine rr [1] ?_
   refine rc (fun KQ hKQ => ?_) AllReadyH.nil
   go_simp
   refine (CA.out _).mono ?_
   rintro e y10 ⟨rfl, hY10⟩
   have q10 := q9.trans (hY10.mono q9.size)
   have r10 := HS.out _ q10
   go_wp2_with fail
   refine hKQ.out _ _ (r10) (fun _ => ?_)
   clear hKQ KQ
   try simp only [Act.put, ka, kb, kc]
   refine rr [4] ?_
   refine rc (fun KQ hKQ => ?_) AllReadyH.nil
   go_simp
   refine (N1.out _).mono ?_
   rintro e y11 ⟨rfl, hY11⟩
   have q11 := q10.trans (hY11.mono q10.size)
   have r11 := HS.out _ q11
   go_wp2_with fail
   refine hKQ.out _ _ (r11) (fun _ => ?_)
   clear hKQ KQ
   try simp only [Act.put, ka, kb, kc]
   refine rr [7] ?_
   refine rc (fun KQ hKQ => ?_) AllReadyH.nil
   go_simp
   refine (N2.out _).mono ?_
   rintro e y12 ⟨rfl, hY12⟩
   have q12 := q11.trans (hY12.mono q11.size)
   have r12 := HS.out _ q12
   go_wp2_with fail
   refine hKQ.out _ _ (r12) (fun _ => ?_)
   clear hKQ KQ
   try simp only [Act.put, ka, kb, kc]
   refine tj 8 _ ?_
   try simp only [Act.put, ka, kb, kc]
   refine rr [11] ?_
   refine rc (fun KQ hKQ => ?_) AllReadyH.nil
   go_simp
   refine (N3.out _).mono ?_
   rintro e y13 ⟨rfl, hY13⟩
   have q13 := q12.trans (hY13.mono q12.size)
   have r13 := HS.out _ q13
   go_wp2_with fail
   refine hKQ.out _ _ (r13) (fun _ => ?_)
   clear hKQ KQ
   try simp only [Act.put, ka, kb, kc]
   iterate 5 (refine tx 12 _ ?_; try simp only [Act.put, ka, kb, kc])
   refine rr [17] ?_
   refine rc (fun KQ hKQ => ?_) AllReadyH.nil
   go_simp
   refine (N1.out _).mono ?_
   rintro e y14 ⟨rfl, hY14⟩
   have q14 := q13.trans (hY14.mono q13.size)
   have r14 := HS.out _ q14
   go_wp2_with fail
   refine hKQ.out _ _ (r14) (fun _ => ?_)
   clear hKQ KQ
   try simp only [Act.put, ka, kb, kc]
   iterate 2 (refine tx 18 _ ?_; try simp only [Act.put, ka, kb, kc])
   refine wpAnyH_done (by kernel_rfl) ?_ _
   have ra := HS.out _ q14
   clear g1 g2
   by_cases e1 : 1 ≤ ce
   ·
    by_cases e2 : ce ≤ n
    ·
     by_cases e3 : 1 ≤ ck
     ·
      by_cases e4 : ck ≤ n
      ·
       by_cases e5 : (n : Int) < ce + ck
       ·
        by_cases e6 : (n : Int) < 2 * ce
        ·
         go_wp2_with fail
         go_ret
         exact ⟨ref9.ret_bool (by have := HZ.out; have := HZS.out; simp; omega), HB.out.trans (q14.mono HB.out.size)⟩
        ·
         go_wp2_with fail
         go_ret
         exact ⟨ref9.ret_bool (by have := HZ.out; have := HZS.out; simp; omega), HB.out.trans (q14.mono HB.out.size)⟩
       ·
        go_wp2_with fail
        go_ret
        exact ⟨ref9.ret_bool (by have := HZ.out; have := HZS.out; simp; omega), HB.out.trans (q14.mono HB.out.size)⟩
      ·
       go_wp2_with fail
       go_ret
       exact ⟨ref9.ret_bool (by have := HZ.out; have := HZS.out; simp; omega), HB.out.trans (q14.mono HB.out.size)⟩
     ·
      go_wp2_with fail
      go_ret
      exact ⟨ref9.ret_bool (by have := HZ.out; have := HZS.out; simp; omega), HB.out.trans (q14.mono HB.out.size)⟩
    ·
     go_wp2_with fail
     go_ret
     exact ⟨ref9.ret_bool (by have := HZ.out; have := HZS.out; simp; omega), HB.out.trans (q14.mono HB.out.size)⟩
   ·
    go_wp2_with fail
    go_ret
    exact ⟨ref9.ret_bool (by have := HZ.out; have := HZS.out; simp; omega), HB.out.trans (q14.mono HB.out.size)⟩
 ·
  have g1 : ((na : Int) != (n1 : Int) + n2 + n3) = true := by rw [bne_iff_ne]; omega
  have HZS := Lh hs
  clear hs
  have q9 := q8.drew
  refine wp_region_held_drew (S := fun wq => (wq.cell? ⟨w.heap.size, 0, none⟩ = some (.int .u16 (cv : Int)) ∧ wq.cell? ⟨w.heap.size, 1, none⟩ = some (.int .u16 (cw : Int)) ∧ wq.cell? ⟨w.heap.size, 2, none⟩ = some (.int .u16 (cl : Int)) ∧ wq.cell? ⟨w.heap.size, 3, none⟩ = some (.int .i64 ce) ∧ wq.cell? ⟨w.heap.size, 4, none⟩ = some (.int .i64 ck))) (by kernel_rfl) ?s_rmay5c (fun hHeld => ?_)
  case s_rmay5c => exact HS.out _ q9
  refine tj 0 _ ?_
  try simp only [Act.put, ka, kb, kc]
  iterate 2 (refine tx 2 _ ?_; try simp only [Act.put, ka, kb, kc])
  iterate 2 (refine tx 5 _ ?_; try simp only [Act.put, ka, kb, kc])
  iterate 2 (refine tx 9 _ ?_; try simp only [Act.put, ka, kb, kc])
  refine rr [1] ?_
  refine rc (fun KQ hKQ => ?_) AllReadyH.nil
  go_simp
  refine (CA.out _).mono ?_
  rintro e y10 ⟨rfl, hY10⟩
  have q10 := q9.trans (hY10.mono q9.size)
  have r10 := HS.out _ q10
  go_wp2_with fail
  refine hKQ.out _ _ (r10) (fun _ => ?_)
  clear hKQ KQ
  try simp only [Act.put, ka, kb, kc]
  refine rr [4] ?_
  refine rc (fun KQ hKQ => ?_) AllReadyH.nil
  go_simp
  refine (N1.out _).mono ?_
  rintro e y11 ⟨rfl, hY11⟩
  have q11 := q10.trans (hY11.mono q10.size)
  have r11 := HS.out _ q11
  go_wp2_with fail
  refine hKQ.out _ _ (r11) (fun _ => ?_)
  clear hKQ KQ
  try simp only [Act.put, ka, kb, kc]
  refine rr [7] ?_
  refine rc (fun KQ hKQ => ?_) AllReadyH.nil
  go_simp
  refine (N2.out _).mono ?_
  rintro e y12 ⟨rfl, hY12⟩
  have q12 := q11.trans (hY12.mono q11.size)
  have r12 := HS.out _ q12
  go_wp2_with fail
  refine hKQ.out _ _ (r12) (fun _ => ?_)
  clear hKQ KQ
  try simp only [Act.put, ka, kb, kc]
  refine tj 8 _ ?_
  try simp only [Act.put, ka, kb, kc]
  refine rr [11] ?_
  refine rc (fun KQ hKQ => ?_) AllReadyH.nil
  go_simp
  refine (N3.out _).mono ?_
  rintro e y13 ⟨rfl, hY13⟩
  have q13 := q12.trans (hY13.mono q12.size)
  have r13 := HS.out _ q13
  go_wp2_with fail
  refine hKQ.out _ _ (r13) (fun _ => ?_)
  clear hKQ KQ
  try simp only [Act.put, ka, kb, kc]
  iterate 3 (refine tx 12 _ ?_; try simp only [Act.put, ka, kb, kc])
  refine tv 15 ?_
  try simp only [Act.put, ka, kb, kc]
  refine tv 16 ?_
  try simp only [Act.put, ka, kb, kc]
  refine tv 17 ?_
  try simp only [Act.put, ka, kb, kc]
  refine tv 18 ?_
  try simp only [Act.put, ka, kb, kc]
  refine tj 19 _ ?_
  try simp only [Act.put, ka, kb, kc]
  refine wpAnyH_done (by kernel_rfl) ?_ _
  go_wp2_with fail
  go_ret
  exact ⟨ref9.ret_bool (by simp [HZS.out]), HB.out.trans (q13.mono HB.out.size)⟩
end Go.Proofs.YtegnfkbmlalkeaaGreat.ref10
