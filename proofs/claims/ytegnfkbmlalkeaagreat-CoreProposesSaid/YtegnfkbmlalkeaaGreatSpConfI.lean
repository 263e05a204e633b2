/- What the landed conf makes of one configuration: its sets, whether it may be, what a quorum needs. Conditions: sets are uint16 values, numbers int. -/
import Derived.Deep.RegionHeld3
import Derived.Deep.Cut
import Derived.Test.YtegnfkbmlalkeaaGreatSpSetsI
import Derived.Test.YtegnfkbmlalkeaaGreatSpJ0
set_option linter.unusedVariables false
set_option maxHeartbeats 16000000
set_option maxRecDepth 10000
namespace Go.Proofs.YtegnfkbmlalkeaaGreat.confi
open Go Go.RowKit kit nums se cf
theorem voters_any (c : CfL) (w : World) (h : c.ok) : Calls Tryz.prog 116 #[cfV c] w fun e w' => e = .returned (.int .u16 ((c.v : Nat) : Int)) ∧ Below w.heap.size w w' := by
 unfold cfV
 obtain ⟨cv, cw, cl, ce, ck⟩ := c
 dsimp only [votF, datF, memF] at *
 have hB := (Below.refl w.heap.size w).alloc (Nat.le_refl _) (.cells #[.int .u16 (cv : Int), .int .u16 (cw : Int), .int .u16 (cl : Int), .int .i64 ce, .int .i64 ck] 25)
 clear h
 go_enter Tryz.func116, Tryz.ntmps116
 go_wp2_with fail
 go_ret
 exact ⟨rfl, hB⟩
theorem voting_any (c : CfL) (w : World) (h : c.ok) : Calls Tryz.prog 160 #[cfV c] w fun e w' => e = .returned (.int .u16 ((votF c : Nat) : Int)) ∧ Below w.heap.size w w' := by
 have HA := bits_or_u16_nat c.v c.w h.1 h.2.1
 unfold cfV
 obtain ⟨cv, cw, cl, ce, ck⟩ := c
 dsimp only [votF, datF, memF] at *
 have hB := (Below.refl w.heap.size w).alloc (Nat.le_refl _) (.cells #[.int .u16 (cv : Int), .int .u16 (cw : Int), .int .u16 (cl : Int), .int .i64 ce, .int .i64 ck] 25)
 clear h
 go_enter Tryz.func160, Tryz.ntmps160
 go_wp2_with fail
 go_ret
 exact ⟨rfl, hB⟩
theorem data_any (c : CfL) (w : World) (h : c.ok) : Calls Tryz.prog 179 #[cfV c] w fun e w' => e = .returned (.int .u16 ((datF c : Nat) : Int)) ∧ Below w.heap.size w w' := by
 have HA := bits_or_u16_nat c.v c.l h.1 h.2.2.1
 unfold cfV
 obtain ⟨cv, cw, cl, ce, ck⟩ := c
 dsimp only [votF, datF, memF] at *
 have hB := (Below.refl w.heap.size w).alloc (Nat.le_refl _) (.cells #[.int .u16 (cv : Int), .int .u16 (cw : Int), .int .u16 (cl : Int), .int .i64 ce, .int .i64 ck] 25)
 clear h
 go_enter Tryz.func179, Tryz.ntmps179
 go_wp2_with fail
 go_ret
 exact ⟨rfl, hB⟩
theorem members_any (c : CfL) (w : World) (h : c.ok) : Calls Tryz.prog 171 #[cfV c] w fun e w' => e = .returned (.int .u16 ((memF c : Nat) : Int)) ∧ Below w.heap.size w w' := by
 have HA := bits_or_u16_nat c.v c.w h.1 h.2.1
 have HA2 := bits_or_u16_nat (c.v ||| c.w) c.l (vot_lt h) h.2.2.1
 unfold cfV
 obtain ⟨cv, cw, cl, ce, ck⟩ := c
 dsimp only [votF, datF, memF] at *
 have hB := (Below.refl w.heap.size w).alloc (Nat.le_refl _) (.cells #[.int .u16 (cv : Int), .int .u16 (cw : Int), .int .u16 (cl : Int), .int .i64 ce, .int .i64 ck] 25)
 clear h
 go_enter Tryz.func171, Tryz.ntmps171
 go_wp2_with fail
 go_ret
 exact ⟨rfl, hB⟩
theorem count_any (s : Nat) (w : World) (hs : s < 65536) : Calls Tryz.prog 159 #[.int .u16 (s : Int)] w fun e w' => e = .returned (.int .i64 ((cntF s : Nat) : Int)) ∧ Below w.heap.size w w' := by
 rw [← cntF_list]
 exact seti.count_any s w hs
theorem mayCount_any (q : Int) (n : Nat) (w : World) (hn : n ≤ 9) : Calls Tryz.prog 175 #[.int .i64 q, .int .i64 (n : Int)] w fun e w' => e = .returned (.bool (mayQ q n)) ∧ w = w' := by
 unfold mayQ
 by_cases h1 : 1 ≤ q
 ·
  by_cases h2 : q ≤ n
  ·
   go_enter Tryz.func175, Tryz.ntmps175
   go_wp2_with fail
   go_ret
   exact ⟨ref9.ret_bool (by simp <;> omega), rfl⟩
  ·
   go_enter Tryz.func175, Tryz.ntmps175
   go_wp2_with fail
   go_ret
   exact ⟨ref9.ret_bool (by simp <;> omega), rfl⟩
 ·
  go_enter Tryz.func175, Tryz.ntmps175
  go_wp2_with fail
  go_ret
  exact ⟨ref9.ret_bool (by simp <;> omega), rfl⟩
theorem apart_any (c : CfL) (w : World) (h : c.ok) : Calls Tryz.prog 174 #[cfV c] w fun e w' => e = .returned (.bool (apartB c)) ∧ Below w.heap.size w w' := by
 have CV := Lh (fun w => voting_any c w h)
 have A1 := bits_and_u16_nat c.v c.w h.1 h.2.1
 have A2 := bits_and_u16_nat (votF c) c.l (vot_lt h) h.2.2.1
 unfold apartB
 generalize votF c = sv at *
 unfold cfV at *
 obtain ⟨cv, cw, cl, ce, ck⟩ := c
 dsimp only at *
 clear h
 generalize cv &&& cw = z1 at *
 generalize sv &&& cl = z2 at *
 have k0 : Blk 25 (w.alloc (.cells #[.int .u16 (cv : Int), .int .u16 (cw : Int), .int .u16 (cl : Int), .int .i64 ce, .int .i64 ck] 25)) w.heap.size [.int .u16 (cv : Int), .int .u16 (cw : Int), .int .u16 (cl : Int), .int .i64 ce, .int .i64 ck] := heap_alloc_new w _
 have HB := Lh ((Below.refl w.heap.size w).alloc (Nat.le_refl _) (.cells #[.int .u16 (cv : Int), .int .u16 (cw : Int), .int .u16 (cl : Int), .int .i64 ce, .int .i64 ck] 25))
 have HS : Hid (∀ wq, Below (w.alloc (.cells #[.int .u16 (cv : Int), .int .u16 (cw : Int), .int .u16 (cl : Int), .int .i64 ce, .int .i64 ck] 25)).heap.size (w.alloc (.cells #[.int .u16 (cv : Int), .int .u16 (cw : Int), .int .u16 (cl : Int), .int .i64 ce, .int .i64 ck] 25)) wq → (wq.cell? ⟨w.heap.size, 0, none⟩ = some (.int .u16 (cv : Int)) ∧ wq.cell? ⟨w.heap.size, 1, none⟩ = some (.int .u16 (cw : Int)) ∧ wq.cell? ⟨w.heap.size, 2, none⟩ = some (.int .u16 (cl : Int)) ∧ wq.cell? ⟨w.heap.size, 3, none⟩ = some (.int .i64 ce) ∧ wq.cell? ⟨w.heap.size, 4, none⟩ = some (.int .i64 ck))) := fun wq hq => blk5 (k0.below hq k0.lt)
 have q0 := Below.refl (w.alloc (.cells #[.int .u16 (cv : Int), .int .u16 (cw : Int), .int .u16 (cl : Int), .int .i64 ce, .int .i64 ck] 25)).heap.size (w.alloc (.cells #[.int .u16 (cv : Int), .int .u16 (cw : Int), .int .u16 (cl : Int), .int .i64 ce, .int .i64 ck] 25))
 clear k0
 go_enter Tryz.func174, Tryz.ntmps174
 go_upto_region 1 with (fail)
 generalize (w.alloc (.cells #[.int .u16 (cv : Int), .int .u16 (cw : Int), .int .u16 (cl : Int), .int .i64 ce, .int .i64 ck] 25)) = w1 at *
 have r0 := HS.out _ q0
 by_cases h1 : z1 = 0
 ·
  have g1 : ((z1 : Int) == 0) = true := by rw [beq_iff_eq]; omega
  have H1 := Lh h1
  clear h1
  have q1 := q0.drew
  refine wp_region_held_drew (S := fun wq => (wq.cell? ⟨w.heap.size, 0, none⟩ = some (.int .u16 (cv : Int)) ∧ wq.cell? ⟨w.heap.size, 1, none⟩ = some (.int .u16 (cw : Int)) ∧ wq.cell? ⟨w.heap.size, 2, none⟩ = some (.int .u16 (cl : Int)) ∧ wq.cell? ⟨w.heap.size, 3, none⟩ = some (.int .i64 ce) ∧ wq.cell? ⟨w.heap.size, 4, none⟩ = some (.int .i64 ck))) (by kernel_rfl) ?s_lap1 (fun hHeld => ?_)
  case s_lap1 => exact HS.out _ q1
  iterate 8 (refine tx 0 _ ?_; try simp only [Act.put, ka, kb, kc])
  iterate 2 (refine tx 9 _ ?_; try simp only [Act.put, ka, kb, kc])
  refine rr [8] ?_
  refine rc (fun KQ hKQ => ?_) AllReadyH.nil
  go_simp
  refine (CV.out _).mono ?_
  rintro e y2 ⟨rfl, hY2⟩
  have q2 := q1.trans (hY2.mono q1.size)
  have r2 := HS.out _ q2
  go_wp2_with fail
  refine hKQ.out _ _ (r2) (fun _ => ?_)
  clear hKQ KQ
  try simp only [Act.put, ka, kb, kc]
  iterate 4 (refine tx 11 _ ?_; try simp only [Act.put, ka, kb, kc])
  refine wpAnyH_done (by kernel_rfl) ?_ _
  go_wp2_with fail
  go_ret
  exact ⟨ref9.ret_bool (by rw [decide_eq_true H1.out, Bool.true_and, Bool.eq_iff_iff, beq_iff_eq, decide_eq_true_eq]; omega), HB.out.trans (q2.mono HB.out.size)⟩
 ·
  have g1 : ((z1 : Int) == 0) = false := by rw [beq_eq_false_iff_ne]; omega
  have H1 := Lh h1
  clear h1
  have q1 := q0.drew
  refine wp_region_held_drew (S := fun wq => (wq.cell? ⟨w.heap.size, 0, none⟩ = some (.int .u16 (cv : Int)) ∧ wq.cell? ⟨w.heap.size, 1, none⟩ = some (.int .u16 (cw : Int)) ∧ wq.cell? ⟨w.heap.size, 2, none⟩ = some (.int .u16 (cl : Int)) ∧ wq.cell? ⟨w.heap.size, 3, none⟩ = some (.int .i64 ce) ∧ wq.cell? ⟨w.heap.size, 4, none⟩ = some (.int .i64 ck))) (by kernel_rfl) ?s_lap2 (fun hHeld => ?_)
  case s_lap2 => exact HS.out _ q1
  iterate 7 (refine tx 0 _ ?_; try simp only [Act.put, ka, kb, kc])
  refine tv 7 ?_
  try simp only [Act.put, ka, kb, kc]
  refine tv 8 ?_
  try simp only [Act.put, ka, kb, kc]
  refine tv 9 ?_
  try simp only [Act.put, ka, kb, kc]
  refine tv 10 ?_
  try simp only [Act.put, ka, kb, kc]
  refine tv 11 ?_
  try simp only [Act.put, ka, kb, kc]
  refine tv 12 ?_
  try simp only [Act.put, ka, kb, kc]
  iterate 2 (refine tx 13 _ ?_; try simp only [Act.put, ka, kb, kc])
  refine wpAnyH_done (by kernel_rfl) ?_ _
  go_wp2_with fail
  go_ret
  exact ⟨ref9.ret_bool (by rw [decide_eq_false (by have := H1.out; omega)]; simp), HB.out.trans (q1.mono HB.out.size)⟩
theorem may_any (c : CfL) (w : World) (h : c.ok) : Calls Tryz.prog 156 #[cfV c] w fun e w' => e = .returned (.bool (mayC c)) ∧ Below w.heap.size w w' := by
 have CV := Lh (fun w => voting_any c w h)
 have CN := Lh (fun w => count_any (votF c) w (vot_lt h))
 have CM := Lh (fun w => members_any c w h)
 have CY := Lh (fun w => seti.may_any (memF c) w (mem_lt h))
 have CA := Lh (fun w => apart_any c w h)
 have hn9 := cntF_le (votF c)
 have QE := Lh (fun w => mayCount_any c.e (cntF (votF c)) w hn9)
 have QK := Lh (fun w => mayCount_any c.k (cntF (votF c)) w hn9)
 have hqe : mayQ c.e (cntF (votF c)) = true → 1 ≤ c.e ∧ c.e ≤ cntF (votF c) := fun h => by simpa [mayQ] using h
 have hqk : mayQ c.k (cntF (votF c)) = true → 1 ≤ c.k ∧ c.k ≤ cntF (votF c) := fun h => by simpa [mayQ] using h
 unfold mayC quoB
 generalize mayQ c.e (cntF (votF c)) = qe at *
 generalize mayQ c.k (cntF (votF c)) = qk at *
 generalize cntF (votF c) = n at *
 generalize mayF (memF c) = m at *
 generalize apartB c = b at *
 generalize votF c = sv at *
 generalize memF c = sm at *
 unfold cfV at *
 obtain ⟨cv, cw, cl, ce, ck⟩ := c
 dsimp only at *
 clear h
 have k0 : Blk 25 (w.alloc (.cells #[.int .u16 (cv : Int), .int .u16 (cw : Int), .int .u16 (cl : Int), .int .i64 ce, .int .i64 ck] 25)) w.heap.size [.int .u16 (cv : Int), .int .u16 (cw : Int), .int .u16 (cl : Int), .int .i64 ce, .int .i64 ck] := heap_alloc_new w _
 have HB := Lh ((Below.refl w.heap.size w).alloc (Nat.le_refl _) (.cells #[.int .u16 (cv : Int), .int .u16 (cw : Int), .int .u16 (cl : Int), .int .i64 ce, .int .i64 ck] 25))
 have HS : Hid (∀ wq, Below (w.alloc (.cells #[.int .u16 (cv : Int), .int .u16 (cw : Int), .int .u16 (cl : Int), .int .i64 ce, .int .i64 ck] 25)).heap.size (w.alloc (.cells #[.int .u16 (cv : Int), .int .u16 (cw : Int), .int .u16 (cl : Int), .int .i64 ce, .int .i64 ck] 25)) wq → (wq.cell? ⟨w.heap.size, 0, none⟩ = some (.int .u16 (cv : Int)) ∧ wq.cell? ⟨w.heap.size, 1, none⟩ = some (.int .u16 (cw : Int)) ∧ wq.cell? ⟨w.heap.size, 2, none⟩ = some (.int .u16 (cl : Int)) ∧ wq.cell? ⟨w.heap.size, 3, none⟩ = some (.int .i64 ce) ∧ wq.cell? ⟨w.heap.size, 4, none⟩ = some (.int .i64 ck))) := fun wq hq => blk5 (k0.below hq k0.lt)
 have q0 := Below.refl (w.alloc (.cells #[.int .u16 (cv : Int), .int .u16 (cw : Int), .int .u16 (cl : Int), .int .i64 ce, .int .i64 ck] 25)).heap.size (w.alloc (.cells #[.int .u16 (cv : Int), .int .u16 (cw : Int), .int .u16 (cl : Int), .int .i64 ce, .int .i64 ck] 25))
 clear k0
 go_enter Tryz.func156, Tryz.ntmps156
 go_upto_region 1 with (fail)
 generalize (w.alloc (.cells #[.int .u16 (cv : Int), .int .u16 (cw : Int), .int .u16 (cl : Int), .int .i64 ce, .int .i64 ck] 25)) = w1 at *
 have r0 := HS.out _ q0
 go_wp2_with fail
 refine (CV.out _).mono ?_
 rintro e y1 ⟨rfl, hY1⟩
 have q1 := q0.trans (hY1.mono q0.size)
 have r1 := HS.out _ q1
 go_wp2_with fail
 refine (CN.out _).mono ?_
 rintro e y2 ⟨rfl, hY2⟩
 have q2 := q1.trans (hY2.mono q1.size)
 have r2 := HS.out _ q2
 cases m
 ·
  go_wp2_with fail
  refine (CM.out _).mono ?_
  rintro e y3 ⟨rfl, hY3⟩
  have q3 := q2.trans (hY3.mono q2.size)
  have r3 := HS.out _ q3
  go_wp2_with fail
  refine (CY.out _).mono ?_
  rintro e y4 ⟨rfl, hY4⟩
  have q4 := q3.trans (hY4.mono q3.size)
  have r4 := HS.out _ q4
  go_wp2_with fail
  go_ret
  exact ⟨ref9.ret_bool (by simp), HB.out.trans (q4.mono HB.out.size)⟩
 ·
  cases b
  ·
   go_wp2_with fail
   refine (CM.out _).mono ?_
   rintro e y3 ⟨rfl, hY3⟩
   have q3 := q2.trans (hY3.mono q2.size)
   have r3 := HS.out _ q3
   go_wp2_with fail
   refine (CY.out _).mono ?_
   rintro e y4 ⟨rfl, hY4⟩
   have q4 := q3.trans (hY4.mono q3.size)
   have r4 := HS.out _ q4
   go_wp2_with fail
   refine (CA.out _).mono ?_
   rintro e y5 ⟨rfl, hY5⟩
   have q5 := q4.trans (hY5.mono q4.size)
   have r5 := HS.out _ q5
   go_wp2_with fail
   go_ret
   exact ⟨ref9.ret_bool (by simp), HB.out.trans (q5.mono HB.out.size)⟩
  ·
   by_cases hv : cv = 0
   ·
    have g1 : ((cv : Int) != 0) = false := by rw [bne_eq_false_iff_eq]; omega
    have HV := Lh hv
    clear hv
    go_wp2_with fail
    refine (CM.out _).mono ?_
    rintro e y3 ⟨rfl, hY3⟩
    have q3 := q2.trans (hY3.mono q2.size)
    have r3 := HS.out _ q3
    go_wp2_with fail
    refine (CY.out _).mono ?_
    rintro e y4 ⟨rfl, hY4⟩
    have q4 := q3.trans (hY4.mono q3.size)
    have r4 := HS.out _ q4
    go_wp2_with fail
    refine (CA.out _).mono ?_
    rintro e y5 ⟨rfl, hY5⟩
    have q5 := q4.trans (hY5.mono q4.size)
    have r5 := HS.out _ q5
    go_wp2_with fail
    go_ret
    exact ⟨ref9.ret_bool (by rw [decide_eq_false (p := cv ≠ 0) (by have := HV.out; omega)]; simp), HB.out.trans (q5.mono HB.out.size)⟩
   ·
    have g1 : ((cv : Int) != 0) = true := by rw [bne_iff_ne]; omega
    have HV := Lh hv
    clear hv
    cases qe
    ·
     go_wp2_with fail
     refine (CM.out _).mono ?_
     rintro e y3 ⟨rfl, hY3⟩
     have q3 := q2.trans (hY3.mono q2.size)
     have r3 := HS.out _ q3
     go_wp2_with fail
     refine (CY.out _).mono ?_
     rintro e y4 ⟨rfl, hY4⟩
     have q4 := q3.trans (hY4.mono q3.size)
     have r4 := HS.out _ q4
     go_wp2_with fail
     refine (CA.out _).mono ?_
     rintro e y5 ⟨rfl, hY5⟩
     have q5 := q4.trans (hY5.mono q4.size)
     have r5 := HS.out _ q5
     go_wp2_with fail
     refine (QE.out _).mono ?_
     rintro e y6 ⟨rfl, rfl⟩
     go_wp2_with fail
     go_ret
     exact ⟨ref9.ret_bool (by simp), HB.out.trans (q5.mono HB.out.size)⟩
    ·
     have he := hqe rfl
     cases qk
     ·
      go_wp2_with fail
      refine (CM.out _).mono ?_
      rintro e y3 ⟨rfl, hY3⟩
      have q3 := q2.trans (hY3.mono q2.size)
      have r3 := HS.out _ q3
      go_wp2_with fail
      refine (CY.out _).mono ?_
      rintro e y4 ⟨rfl, hY4⟩
      have q4 := q3.trans (hY4.mono q3.size)
      have r4 := HS.out _ q4
      go_wp2_with fail
      refine (CA.out _).mono ?_
      rintro e y5 ⟨rfl, hY5⟩
      have q5 := q4.trans (hY5.mono q4.size)
      have r5 := HS.out _ q5
      go_wp2_with fail
      refine (QE.out _).mono ?_
      rintro e y6 ⟨rfl, rfl⟩
      go_wp2_with fail
      refine (QK.out _).mono ?_
      rintro e y7 ⟨rfl, rfl⟩
      go_wp2_with fail
      go_ret
      exact ⟨ref9.ret_bool (by simp), HB.out.trans (q5.mono HB.out.size)⟩
     ·
      have hk := hqk rfl
      clear hqe hqk
      go_wp2_with fail
      refine (CM.out _).mono ?_
      rintro e y3 ⟨rfl, hY3⟩
      have q3 := q2.trans (hY3.mono q2.size)
      have r3 := HS.out _ q3
      go_wp2_with fail
      refine (CY.out _).mono ?_
      rintro e y4 ⟨rfl, hY4⟩
      have q4 := q3.trans (hY4.mono q3.size)
      have r4 := HS.out _ q4
      go_wp2_with fail
      refine (CA.out _).mono ?_
      rintro e y5 ⟨rfl, hY5⟩
      have q5 := q4.trans (hY5.mono q4.size)
      have r5 := HS.out _ q5
      go_wp2_with fail
      refine (QE.out _).mono ?_
      rintro e y6 ⟨rfl, rfl⟩
      go_wp2_with fail
      refine (QK.out _).mono ?_
      rintro e y7 ⟨rfl, rfl⟩
      by_cases hs : (n : Int) < ce + ck
      ·
       go_wp2_with fail
       go_ret
       exact ⟨ref9.ret_bool (by have hv := HV.out; rw [Bool.eq_iff_iff]; simp [hv, hs]), HB.out.trans (q5.mono HB.out.size)⟩
      ·
       go_wp2_with fail
       go_ret
       exact ⟨ref9.ret_bool (by simp; omega), HB.out.trans (q5.mono HB.out.size)⟩
end Go.Proofs.YtegnfkbmlalkeaaGreat.confi
