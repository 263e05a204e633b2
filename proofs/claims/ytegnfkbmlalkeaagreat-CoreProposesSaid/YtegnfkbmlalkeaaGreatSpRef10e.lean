/- What the document's answer to conf (antipoderef10) makes of a change. Conditions: sets are uint16 values, numbers int, the joint is valid. -/
import Derived.Test.YtegnfkbmlalkeaaGreatSpRef10d
set_option linter.unusedVariables false
set_option maxHeartbeats 16000000
set_option maxRecDepth 10000
namespace Go.Proofs.YtegnfkbmlalkeaaGreat.ref10
open Go Go.RowKit kit nums se cf
theorem change_any (j : JtL) (to : CfL) (w : World) (h : j.ok) (ht : to.ok) (hm : mayJ j = true) : Calls Tryz.prog 42 #[jtV j, cfV to] w fun e w' => e = .returned (.tuple #[jtV (changeJ j to), .int .i64 (changeE j to)]) ∧ Below w.heap.size w w' := by
 have CM := Lh (fun w => may_any to w ht)
 have CJ := Lh (fun w => ref9.join_any j.a.v j.a.l w h.1.1 h.1.2.2.1)
 have CX := Lh (fun w => ref9.meet_any to.v (joinF j.a.v j.a.l) w ht.1 (join_lt h.1.1 h.1.2.2.1))
 have H1 := Lh (fun h => change_two (j := j) to h)
 have H2 := Lh (fun h h2 => change_bad (j := j) (to := to) h h2)
 have H3 : Hid (j.two = false → mayC to = true → (decide (to.w ≠ j.a.w) || decide (meetF to.v (joinF j.a.v j.a.l) ≠ to.v)) = true → changeE j to = 10 ∧ changeJ j to = zeroJ) := fun h h2 h3 => change_step h h2 (by rw [step_ref (mayJ_a hm) h2]; exact h3)
 have H4 : Hid (j.two = false → mayC to = true → (decide (to.w ≠ j.a.w) || decide (meetF to.v (joinF j.a.v j.a.l) ≠ to.v)) = false → changeE j to = 0 ∧ changeJ j to = ⟨j.a, to, true⟩) := fun h h2 h3 => change_goes h h2 (by rw [step_ref (mayJ_a hm) h2]; exact h3)
 generalize changeJ j to = R at *
 generalize changeE j to = E at *
 generalize meetF to.v (joinF j.a.v j.a.l) = z at *
 generalize joinF j.a.v j.a.l = d at *
 generalize mayC to = m at *
 clear h ht hm
 obtain ⟨⟨av, aw, al, ae, ak⟩, ⟨bv, bw, bl, be, bk⟩, t⟩ := j
 obtain ⟨cv, cw, cl, ce, ck⟩ := to
 unfold jtV cfV at *
 dsimp only at *
 have k0 : Blk 27 (((w.alloc (.cells #[.int .u16 (av : Int), .int .u16 (aw : Int), .int .u16 (al : Int), .int .i64 ae, .int .i64 ak, .int .u16 (bv : Int), .int .u16 (bw : Int), .int .u16 (bl : Int), .int .i64 be, .int .i64 bk, .bool t] 27)).alloc (.cells #[.int .u16 (cv : Int), .int .u16 (cw : Int), .int .u16 (cl : Int), .int .i64 ce, .int .i64 ck] 25)).alloc (.cells #[.int .u16 0, .int .u16 0, .int .u16 0, .int .i64 0, .int .i64 0, .int .u16 0, .int .u16 0, .int .u16 0, .int .i64 0, .int .i64 0, .bool false] 27)) w.heap.size [.int .u16 (av : Int), .int .u16 (aw : Int), .int .u16 (al : Int), .int .i64 ae, .int .i64 ak, .int .u16 (bv : Int), .int .u16 (bw : Int), .int .u16 (bl : Int), .int .i64 be, .int .i64 bk, .bool t] := Blk.alloc (Blk.alloc (heap_alloc_new w _) _) _
 have k1 : Blk 25 (((w.alloc (.cells #[.int .u16 (av : Int), .int .u16 (aw : Int), .int .u16 (al : Int), .int .i64 ae, .int .i64 ak, .int .u16 (bv : Int), .int .u16 (bw : Int), .int .u16 (bl : Int), .int .i64 be, .int .i64 bk, .bool t] 27)).alloc (.cells #[.int .u16 (cv : Int), .int .u16 (cw : Int), .int .u16 (cl : Int), .int .i64 ce, .int .i64 ck] 25)).alloc (.cells #[.int .u16 0, .int .u16 0, .int .u16 0, .int .i64 0, .int .i64 0, .int .u16 0, .int .u16 0, .int .u16 0, .int .i64 0, .int .i64 0, .bool false] 27)) (w.heap.size + 1) [.int .u16 (cv : Int), .int .u16 (cw : Int), .int .u16 (cl : Int), .int .i64 ce, .int .i64 ck] := Blk.alloc (by have := heap_alloc_new (w.alloc (.cells #[.int .u16 (av : Int), .int .u16 (aw : Int), .int .u16 (al : Int), .int .i64 ae, .int .i64 ak, .int .u16 (bv : Int), .int .u16 (bw : Int), .int .u16 (bl : Int), .int .i64 be, .int .i64 bk, .bool t] 27)) (.cells #[.int .u16 (cv : Int), .int .u16 (cw : Int), .int .u16 (cl : Int), .int .i64 ce, .int .i64 ck] 25); rwa [show (w.alloc (.cells #[.int .u16 (av : Int), .int .u16 (aw : Int), .int .u16 (al : Int), .int .i64 ae, .int .i64 ak, .int .u16 (bv : Int), .int .u16 (bw : Int), .int .u16 (bl : Int), .int .i64 be, .int .i64 bk, .bool t] 27)).heap.size = w.heap.size + 1 by simp] at this) _
 have k2 : Blk 27 (((w.alloc (.cells #[.int .u16 (av : Int), .int .u16 (aw : Int), .int .u16 (al : Int), .int .i64 ae, .int .i64 ak, .int .u16 (bv : Int), .int .u16 (bw : Int), .int .u16 (bl : Int), .int .i64 be, .int .i64 bk, .bool t] 27)).alloc (.cells #[.int .u16 (cv : Int), .int .u16 (cw : Int), .int .u16 (cl : Int), .int .i64 ce, .int .i64 ck] 25)).alloc (.cells #[.int .u16 0, .int .u16 0, .int .u16 0, .int .i64 0, .int .i64 0, .int .u16 0, .int .u16 0, .int .u16 0, .int .i64 0, .int .i64 0, .bool false] 27)) (w.heap.size + 2) [.int .u16 0, .int .u16 0, .int .u16 0, .int .i64 0, .int .i64 0, .int .u16 0, .int .u16 0, .int .u16 0, .int .i64 0, .int .i64 0, .bool false] := by have := heap_alloc_new ((w.alloc (.cells #[.int .u16 (av : Int), .int .u16 (aw : Int), .int .u16 (al : Int), .int .i64 ae, .int .i64 ak, .int .u16 (bv : Int), .int .u16 (bw : Int), .int .u16 (bl : Int), .int .i64 be, .int .i64 bk, .bool t] 27)).alloc (.cells #[.int .u16 (cv : Int), .int .u16 (cw : Int), .int .u16 (cl : Int), .int .i64 ce, .int .i64 ck] 25)) (.cells #[.int .u16 0, .int .u16 0, .int .u16 0, .int .i64 0, .int .i64 0, .int .u16 0, .int .u16 0, .int .u16 0, .int .i64 0, .int .i64 0, .bool false] 27); rwa [show ((w.alloc (.cells #[.int .u16 (av : Int), .int .u16 (aw : Int), .int .u16 (al : Int), .int .i64 ae, .int .i64 ak, .int .u16 (bv : Int), .int .u16 (bw : Int), .int .u16 (bl : Int), .int .i64 be, .int .i64 bk, .bool t] 27)).alloc (.cells #[.int .u16 (cv : Int), .int .u16 (cw : Int), .int .u16 (cl : Int), .int .i64 ce, .int .i64 ck] 25)).heap.size = w.heap.size + 2 by simp] at this
 have HB := Lh ((((Below.refl w.heap.size w).alloc (Nat.le_refl _) (.cells #[.int .u16 (av : Int), .int .u16 (aw : Int), .int .u16 (al : Int), .int .i64 ae, .int .i64 ak, .int .u16 (bv : Int), .int .u16 (bw : Int), .int .u16 (bl : Int), .int .i64 be, .int .i64 bk, .bool t] 27)).alloc (by simp; try omega) (.cells #[.int .u16 (cv : Int), .int .u16 (cw : Int), .int .u16 (cl : Int), .int .i64 ce, .int .i64 ck] 25)).alloc (by simp; try omega) (.cells #[.int .u16 0, .int .u16 0, .int .u16 0, .int .i64 0, .int .i64 0, .int .u16 0, .int .u16 0, .int .u16 0, .int .i64 0, .int .i64 0, .bool false] 27))
 have HS : Hid (∀ wq, Below (((w.alloc (.cells #[.int .u16 (av : Int), .int .u16 (aw : Int), .int .u16 (al : Int), .int .i64 ae, .int .i64 ak, .int .u16 (bv : Int), .int .u16 (bw : Int), .int .u16 (bl : Int), .int .i64 be, .int .i64 bk, .bool t] 27)).alloc (.cells #[.int .u16 (cv : Int), .int .u16 (cw : Int), .int .u16 (cl : Int), .int .i64 ce, .int .i64 ck] 25)).alloc (.cells #[.int .u16 0, .int .u16 0, .int .u16 0, .int .i64 0, .int .i64 0, .int .u16 0, .int .u16 0, .int .u16 0, .int .i64 0, .int .i64 0, .bool false] 27)).heap.size (((w.alloc (.cells #[.int .u16 (av : Int), .int .u16 (aw : Int), .int .u16 (al : Int), .int .i64 ae, .int .i64 ak, .int .u16 (bv : Int), .int .u16 (bw : Int), .int .u16 (bl : Int), .int .i64 be, .int .i64 bk, .bool t] 27)).alloc (.cells #[.int .u16 (cv : Int), .int .u16 (cw : Int), .int .u16 (cl : Int), .int .i64 ce, .int .i64 ck] 25)).alloc (.cells #[.int .u16 0, .int .u16 0, .int .u16 0, .int .i64 0, .int .i64 0, .int .u16 0, .int .u16 0, .int .u16 0, .int .i64 0, .int .i64 0, .bool false] 27)) wq → (wq.cell? ⟨w.heap.size, 0, none⟩ = some (.int .u16 (av : Int)) ∧ wq.cell? ⟨w.heap.size, 1, none⟩ = some (.int .u16 (aw : Int)) ∧ wq.cell? ⟨w.heap.size, 2, none⟩ = some (.int .u16 (al : Int)) ∧ wq.cell? ⟨w.heap.size, 3, none⟩ = some (.int .i64 ae) ∧ wq.cell? ⟨w.heap.size, 4, none⟩ = some (.int .i64 ak) ∧ wq.cell? ⟨w.heap.size, 5, none⟩ = some (.int .u16 (bv : Int)) ∧ wq.cell? ⟨w.heap.size, 6, none⟩ = some (.int .u16 (bw : Int)) ∧ wq.cell? ⟨w.heap.size, 7, none⟩ = some (.int .u16 (bl : Int)) ∧ wq.cell? ⟨w.heap.size, 8, none⟩ = some (.int .i64 be) ∧ wq.cell? ⟨w.heap.size, 9, none⟩ = some (.int .i64 bk) ∧ wq.cell? ⟨w.heap.size, 10, none⟩ = some (.bool t)) ∧ (wq.cell? ⟨w.heap.size + 1, 0, none⟩ = some (.int .u16 (cv : Int)) ∧ wq.cell? ⟨w.heap.size + 1, 1, none⟩ = some (.int .u16 (cw : Int)) ∧ wq.cell? ⟨w.heap.size + 1, 2, none⟩ = some (.int .u16 (cl : Int)) ∧ wq.cell? ⟨w.heap.size + 1, 3, none⟩ = some (.int .i64 ce) ∧ wq.cell? ⟨w.heap.size + 1, 4, none⟩ = some (.int .i64 ck))) := fun wq hq => ⟨blk11 (k0.below hq k0.lt), blk5 (k1.below hq k1.lt)⟩
 have HK := Lh k2
 have q0 := Below.refl (((w.alloc (.cells #[.int .u16 (av : Int), .int .u16 (aw : Int), .int .u16 (al : Int), .int .i64 ae, .int .i64 ak, .int .u16 (bv : Int), .int .u16 (bw : Int), .int .u16 (bl : Int), .int .i64 be, .int .i64 bk, .bool t] 27)).alloc (.cells #[.int .u16 (cv : Int), .int .u16 (cw : Int), .int .u16 (cl : Int), .int .i64 ce, .int .i64 ck] 25)).alloc (.cells #[.int .u16 0, .int .u16 0, .int .u16 0, .int .i64 0, .int .i64 0, .int .u16 0, .int .u16 0, .int .u16 0, .int .i64 0, .int .i64 0, .bool false] 27)).heap.size (((w.alloc (.cells #[.int .u16 (av : Int), .int .u16 (aw : Int), .int .u16 (al : Int), .int .i64 ae, .int .i64 ak, .int .u16 (bv : Int), .int .u16 (bw : Int), .int .u16 (bl : Int), .int .i64 be, .int .i64 bk, .bool t] 27)).alloc (.cells #[.int .u16 (cv : Int), .int .u16 (cw : Int), .int .u16 (cl : Int), .int .i64 ce, .int .i64 ck] 25)).alloc (.cells #[.int .u16 0, .int .u16 0, .int .u16 0, .int .i64 0, .int .i64 0, .int .u16 0, .int .u16 0, .int .u16 0, .int .i64 0, .int .i64 0, .bool false] 27))
 clear k0 k1 k2
 cases t
 ·
  go_enter Tryz.func42, Tryz.ntmps42
  go_upto_region 1 with (fail)
  generalize (((w.alloc (.cells #[.int .u16 (av : Int), .int .u16 (aw : Int), .int .u16 (al : Int), .int .i64 ae, .int .i64 ak, .int .u16 (bv : Int), .int .u16 (bw : Int), .int .u16 (bl : Int), .int .i64 be, .int .i64 bk, .bool false] 27)).alloc (.cells #[.int .u16 (cv : Int), .int .u16 (cw : Int), .int .u16 (cl : Int), .int .i64 ce, .int .i64 ck] 25)).alloc (.cells #[.int .u16 0, .int .u16 0, .int .u16 0, .int .i64 0, .int .i64 0, .int .u16 0, .int .u16 0, .int .u16 0, .int .i64 0, .int .i64 0, .bool false] 27)) = w1 at *
  have r0 := HS.out _ q0
  cases m
  ·
   go_wp2_with fail
   refine (CM.out _).mono ?_
   rintro e y1 ⟨rfl, hY1⟩
   have q1 := q0.trans (hY1.mono q0.size)
   have r1 := HS.out _ q1
   have K2 := HK.out.below q1 HK.out.lt
   have B2 := HB.out.trans (q1.mono HB.out.size)
   have c2 := blk11 K2
   have df := fun i => K2.frozen i
   go_wp2_with fail
   have sF := put11 (.int .u16 0) (.int .u16 0) (.int .u16 0) (.int .i64 0) (.int .i64 0) (.int .u16 0) (.int .u16 0) (.int .u16 0) (.int .i64 0) (.int .i64 0) (.bool false) K2
   have bF := below11 (g := w.heap.size + 2) (.int .u16 0) (.int .u16 0) (.int .u16 0) (.int .i64 0) (.int .i64 0) (.int .u16 0) (.int .u16 0) (.int .u16 0) (.int .i64 0) (.int .i64 0) (.bool false) B2 (by first | omega | simp)
   generalize (((((((((((y1.setCell ⟨w.heap.size + 2, 0, none⟩ (.int .u16 0)).setCell ⟨w.heap.size + 2, 1, none⟩ (.int .u16 0)).setCell ⟨w.heap.size + 2, 2, none⟩ (.int .u16 0)).setCell ⟨w.heap.size + 2, 3, none⟩ (.int .i64 0)).setCell ⟨w.heap.size + 2, 4, none⟩ (.int .i64 0)).setCell ⟨w.heap.size + 2, 5, none⟩ (.int .u16 0)).setCell ⟨w.heap.size + 2, 6, none⟩ (.int .u16 0)).setCell ⟨w.heap.size + 2, 7, none⟩ (.int .u16 0)).setCell ⟨w.heap.size + 2, 8, none⟩ (.int .i64 0)).setCell ⟨w.heap.size + 2, 9, none⟩ (.int .i64 0)).setCell ⟨w.heap.size + 2, 10, none⟩ (.bool false)) = wf at *
   obtain ⟨e0, e1, e2, e3, e4, e5, e6, e7, e8, e9, e10⟩ := blk11 sF
   (try simp only [Exit.inBlock, Exit.then])
   refine bodyPost_ret (by simp [results, Tryz.results42, go_sem, e0, e1, e2, e3, e4, e5, e6, e7, e8, e9, e10]; try rfl) rfl ?_
   exact ⟨by rw [(H2.out (by simp) (by simp)).1, (H2.out (by simp) (by simp)).2]; try rfl, bF⟩
  ·
   go_wp2_with fail
   refine (CM.out _).mono ?_
   rintro e y1 ⟨rfl, hY1⟩
   have q1 := q0.trans (hY1.mono q0.size)
   have r1 := HS.out _ q1
   go_wp2_with fail
   refine (CJ.out _).mono ?_
   rintro e y2 ⟨rfl, rfl⟩
   have HT := HS.out
   go_upto_region 6 with (fail)
   clear HT
   by_cases hw : cw = aw
   ·
    have g1 : ((cw : Int) != (aw : Int)) = false := by rw [bne_eq_false_iff_eq]; omega
    have HW := Lh hw
    clear hw
    by_cases hz : z = cv
    ·
     have g2 : ((z : Int) != (cv : Int)) = false := by rw [bne_eq_false_iff_eq]; omega
     have HZ := Lh hz
     clear hz
     have q3 := q1.drew
     refine wp_region_held_drew (S := fun wq => (wq.cell? ⟨w.heap.size, 0, none⟩ = some (.int .u16 (av : Int)) ∧ wq.cell? ⟨w.heap.size, 1, none⟩ = some (.int .u16 (aw : Int)) ∧ wq.cell? ⟨w.heap.size, 2, none⟩ = some (.int .u16 (al : Int)) ∧ wq.cell? ⟨w.heap.size, 3, none⟩ = some (.int .i64 ae) ∧ wq.cell? ⟨w.heap.size, 4, none⟩ = some (.int .i64 ak) ∧ wq.cell? ⟨w.heap.size, 5, none⟩ = some (.int .u16 (bv : Int)) ∧ wq.cell? ⟨w.heap.size, 6, none⟩ = some (.int .u16 (bw : Int)) ∧ wq.cell? ⟨w.heap.size, 7, none⟩ = some (.int .u16 (bl : Int)) ∧ wq.cell? ⟨w.heap.size, 8, none⟩ = some (.int .i64 be) ∧ wq.cell? ⟨w.heap.size, 9, none⟩ = some (.int .i64 bk) ∧ wq.cell? ⟨w.heap.size, 10, none⟩ = some (.bool false)) ∧ (wq.cell? ⟨w.heap.size + 1, 0, none⟩ = some (.int .u16 (cv : Int)) ∧ wq.cell? ⟨w.heap.size + 1, 1, none⟩ = some (.int .u16 (cw : Int)) ∧ wq.cell? ⟨w.heap.size + 1, 2, none⟩ = some (.int .u16 (cl : Int)) ∧ wq.cell? ⟨w.heap.size + 1, 3, none⟩ = some (.int .i64 ce) ∧ wq.cell? ⟨w.heap.size + 1, 4, none⟩ = some (.int .i64 ck))) (by kernel_rfl) ?s_rch6a (fun hHeld => ?_)
     case s_rch6a => exact HS.out _ q3
     iterate 10 (refine tx 0 _ ?_; try simp only [Act.put, ka, kb, kc])
     iterate 2 (refine tx 11 _ ?_; try simp only [Act.put, ka, kb, kc])
     refine rr [10] ?_
     refine rc (fun KQ hKQ => ?_) AllReadyH.nil
     go_simp
     refine (CX.out _).mono ?_
     rintro e y4 ⟨rfl, rfl⟩
     have r4 := HS.out _ q3
     go_wp2_with fail
     refine hKQ.out _ _ (r4) (fun _ => ?_)
     clear hKQ KQ
     try simp only [Act.put, ka, kb, kc]
     iterate 2 (refine tx 13 _ ?_; try simp only [Act.put, ka, kb, kc])
     refine wpAnyH_done (by kernel_rfl) ?_ _
     generalize y1.drew = wd at *
     have K5 := HK.out.below q3 HK.out.lt
     have B5 := HB.out.trans (q3.mono HB.out.size)
     have c5 := blk11 K5
     have df := fun i => K5.frozen i
     have ra := HS.out _ q3
     clear g1 g2
     go_wp2_with fail
     have sF := put11 (.int .u16 (av : Int)) (.int .u16 (aw : Int)) (.int .u16 (al : Int)) (.int .i64 ae) (.int .i64 ak) (.int .u16 (cv : Int)) (.int .u16 (cw : Int)) (.int .u16 (cl : Int)) (.int .i64 ce) (.int .i64 ck) (.bool true) K5
     have bF := below11 (g := w.heap.size + 2) (.int .u16 (av : Int)) (.int .u16 (aw : Int)) (.int .u16 (al : Int)) (.int .i64 ae) (.int .i64 ak) (.int .u16 (cv : Int)) (.int .u16 (cw : Int)) (.int .u16 (cl : Int)) (.int .i64 ce) (.int .i64 ck) (.bool true) B5 (by first | omega | simp)
     generalize (((((((((((wd.setCell ⟨w.heap.size + 2, 0, none⟩ (.int .u16 (av : Int))).setCell ⟨w.heap.size + 2, 1, none⟩ (.int .u16 (aw : Int))).setCell ⟨w.heap.size + 2, 2, none⟩ (.int .u16 (al : Int))).setCell ⟨w.heap.size + 2, 3, none⟩ (.int .i64 ae)).setCell ⟨w.heap.size + 2, 4, none⟩ (.int .i64 ak)).setCell ⟨w.heap.size + 2, 5, none⟩ (.int .u16 (cv : Int))).setCell ⟨w.heap.size + 2, 6, none⟩ (.int .u16 (cw : Int))).setCell ⟨w.heap.size + 2, 7, none⟩ (.int .u16 (cl : Int))).setCell ⟨w.heap.size + 2, 8, none⟩ (.int .i64 ce)).setCell ⟨w.heap.size + 2, 9, none⟩ (.int .i64 ck)).setCell ⟨w.heap.size + 2, 10, none⟩ (.bool true)) = wf at *
     obtain ⟨e0, e1, e2, e3, e4, e5, e6, e7, e8, e9, e10⟩ := blk11 sF
     (try simp only [Exit.inBlock, Exit.then])
     refine bodyPost_ret (by simp [results, Tryz.results42, go_sem, e0, e1, e2, e3, e4, e5, e6, e7, e8, e9, e10]; try rfl) rfl ?_
     exact ⟨by rw [(H4.out (by simp) (by simp) (by rw [HZ.out, HW.out]; simp)).1, (H4.out (by simp) (by simp) (by rw [HZ.out, HW.out]; simp)).2]; try rfl, bF⟩
    ·
     have g2 : ((z : Int) != (cv : Int)) = true := by rw [bne_iff_ne]; omega
     have HZ := Lh hz
     clear hz
     have q3 := q1.drew
     refine wp_region_held_drew (S := fun wq => (wq.cell? ⟨w.heap.size, 0, none⟩ = some (.int .u16 (av : Int)) ∧ wq.cell? ⟨w.heap.size, 1, none⟩ = some (.int .u16 (aw : Int)) ∧ wq.cell? ⟨w.heap.size, 2, none⟩ = some (.int .u16 (al : Int)) ∧ wq.cell? ⟨w.heap.size, 3, none⟩ = some (.int .i64 ae) ∧ wq.cell? ⟨w.heap.size, 4, none⟩ = some (.int .i64 ak) ∧ wq.cell? ⟨w.heap.size, 5, none⟩ = some (.int .u16 (bv : Int)) ∧ wq.cell? ⟨w.heap.size, 6, none⟩ = some (.int .u16 (bw : Int)) ∧ wq.cell? ⟨w.heap.size, 7, none⟩ = some (.int .u16 (bl : Int)) ∧ wq.cell? ⟨w.heap.size, 8, none⟩ = some (.int .i64 be) ∧ wq.cell? ⟨w.heap.size, 9, none⟩ = some (.int .i64 bk) ∧ wq.cell? ⟨w.heap.size, 10, none⟩ = some (.bool false)) ∧ (wq.cell? ⟨w.heap.size + 1, 0, none⟩ = some (.int .u16 (cv : Int)) ∧ wq.cell? ⟨w.heap.size + 1, 1, none⟩ = some (.int .u16 (cw : Int)) ∧ wq.cell? ⟨w.heap.size + 1, 2, none⟩ = some (.int .u16 (cl : Int)) ∧ wq.cell? ⟨w.heap.size + 1, 3, none⟩ = some (.int .i64 ce) ∧ wq.cell? ⟨w.heap.size + 1, 4, none⟩ = some (.int .i64 ck))) (by kernel_rfl) ?s_rch6b (fun hHeld => ?_)
     case s_rch6b => exact HS.out _ q3
     iterate 10 (refine tx 0 _ ?_; try simp only [Act.put, ka, kb, kc])
     iterate 2 (refine tx 11 _ ?_; try simp only [Act.put, ka, kb, kc])
     refine rr [10] ?_
     refine rc (fun KQ hKQ => ?_) AllReadyH.nil
     go_simp
     refine (CX.out _).mono ?_
     rintro e y4 ⟨rfl, rfl⟩
     have r4 := HS.out _ q3
     go_wp2_with fail
     refine hKQ.out _ _ (r4) (fun _ => ?_)
     clear hKQ KQ
     try simp only [Act.put, ka, kb, kc]
     iterate 2 (refine tx 13 _ ?_; try simp only [Act.put, ka, kb, kc])
     refine wpAnyH_done (by kernel_rfl) ?_ _
     generalize y1.drew = wd at *
     have K5 := HK.out.below q3 HK.out.lt
     have B5 := HB.out.trans (q3.mono HB.out.size)
     have c5 := blk11 K5
     have df := fun i => K5.frozen i
     clear g1 g2
     go_wp2_with fail
     have sF := put11 (.int .u16 0) (.int .u16 0) (.int .u16 0) (.int .i64 0) (.int .i64 0) (.int .u16 0) (.int .u16 0) (.int .u16 0) (.int .i64 0) (.int .i64 0) (.bool false) K5
     have bF := below11 (g := w.heap.size + 2) (.int .u16 0) (.int .u16 0) (.int .u16 0) (.int .i64 0) (.int .i64 0) (.int .u16 0) (.int .u16 0) (.int .u16 0) (.int .i64 0) (.int .i64 0) (.bool false) B5 (by first | omega | simp)
     generalize (((((((((((wd.setCell ⟨w.heap.size + 2, 0, none⟩ (.int .u16 0)).setCell ⟨w.heap.size + 2, 1, none⟩ (.int .u16 0)).setCell ⟨w.heap.size + 2, 2, none⟩ (.int .u16 0)).setCell ⟨w.heap.size + 2, 3, none⟩ (.int .i64 0)).setCell ⟨w.heap.size + 2, 4, none⟩ (.int .i64 0)).setCell ⟨w.heap.size + 2, 5, none⟩ (.int .u16 0)).setCell ⟨w.heap.size + 2, 6, none⟩ (.int .u16 0)).setCell ⟨w.heap.size + 2, 7, none⟩ (.int .u16 0)).setCell ⟨w.heap.size + 2, 8, none⟩ (.int .i64 0)).setCell ⟨w.heap.size + 2, 9, none⟩ (.int .i64 0)).setCell ⟨w.heap.size + 2, 10, none⟩ (.bool false)) = wf at *
     obtain ⟨e0, e1, e2, e3, e4, e5, e6, e7, e8, e9, e10⟩ := blk11 sF
     (try simp only [Exit.inBlock, Exit.then])
     refine bodyPost_ret (by simp [results, Tryz.results42, go_sem, e0, e1, e2, e3, e4, e5, e6, e7, e8, e9, e10]; try rfl) rfl ?_
     exact ⟨by rw [(H3.out (by simp) (by simp) (by rw [decide_eq_true HZ.out]; simp)).1, (H3.out (by simp) (by simp) (by rw [decide_eq_true HZ.out]; simp)).2]; try rfl, bF⟩
   ·
    have g1 : ((cw : Int) != (aw : Int)) = true := by rw [bne_iff_ne]; omega
    have HW := Lh hw
    clear hw
    have q3 := q1.drew
    refine wp_region_held_drew (S := fun wq => (wq.cell? ⟨w.heap.size, 0, none⟩ = some (.int .u16 (av : Int)) ∧ wq.cell? ⟨w.heap.size, 1, none⟩ = some (.int .u16 (aw : Int)) ∧ wq.cell? ⟨w.heap.size, 2, none⟩ = some (.int .u16 (al : Int)) ∧ wq.cell? ⟨w.heap.size, 3, none⟩ = some (.int .i64 ae) ∧ wq.cell? ⟨w.heap.size, 4, none⟩ = some (.int .i64 ak) ∧ wq.cell? ⟨w.heap.size, 5, none⟩ = some (.int .u16 (bv : Int)) ∧ wq.cell? ⟨w.heap.size, 6, none⟩ = some (.int .u16 (bw : Int)) ∧ wq.cell? ⟨w.heap.size, 7, none⟩ = some (.int .u16 (bl : Int)) ∧ wq.cell? ⟨w.heap.size, 8, none⟩ = some (.int .i64 be) ∧ wq.cell? ⟨w.heap.size, 9, none⟩ = some (.int .i64 bk) ∧ wq.cell? ⟨w.heap.size, 10, none⟩ = some (.bool false)) ∧ (wq.cell? ⟨w.heap.size + 1, 0, none⟩ = some (.int .u16 (cv : Int)) ∧ wq.cell? ⟨w.heap.size + 1, 1, none⟩ = some (.int .u16 (cw : Int)) ∧ wq.cell? ⟨w.heap.size + 1, 2, none⟩ = some (.int .u16 (cl : Int)) ∧ wq.cell? ⟨w.heap.size + 1, 3, none⟩ = some (.int .i64 ce) ∧ wq.cell? ⟨w.heap.size + 1, 4, none⟩ = some (.int .i64 ck))) (by kernel_rfl) ?s_rch6c (fun hHeld => ?_)
    case s_rch6c => exact HS.out _ q3
    iterate 7 (refine tx 0 _ ?_; try simp only [Act.put, ka, kb, kc])
    refine tv 7 ?_
    try simp only [Act.put, ka, kb, kc]
    refine tv 8 ?_
    try simp only [Act.put, ka, kb, kc]
    refine tv 9 ?_
    try simp only [Act.put, ka, kb, kc]
    refine tv 10 ?_
    try simp only [Act.put, ka, kb, kc]
    refine tv 11 ?_
    try simp only [Act.put, ka, kb, kc]
    refine tv 12 ?_
    try simp only [Act.put, ka, kb, kc]
    refine tv 13 ?_
    try simp only [Act.put, ka, kb, kc]
    refine tj 14 _ ?_
    try simp only [Act.put, ka, kb, kc]
    refine wpAnyH_done (by kernel_rfl) ?_ _
    generalize y1.drew = wd at *
    have K4 := HK.out.below q3 HK.out.lt
    have B4 := HB.out.trans (q3.mono HB.out.size)
    have c4 := blk11 K4
    have df := fun i => K4.frozen i
    clear g1
    go_wp2_with fail
    have sF := put11 (.int .u16 0) (.int .u16 0) (.int .u16 0) (.int .i64 0) (.int .i64 0) (.int .u16 0) (.int .u16 0) (.int .u16 0) (.int .i64 0) (.int .i64 0) (.bool false) K4
    have bF := below11 (g := w.heap.size + 2) (.int .u16 0) (.int .u16 0) (.int .u16 0) (.int .i64 0) (.int .i64 0) (.int .u16 0) (.int .u16 0) (.int .u16 0) (.int .i64 0) (.int .i64 0) (.bool false) B4 (by first | omega | simp)
    generalize (((((((((((wd.setCell ⟨w.heap.size + 2, 0, none⟩ (.int .u16 0)).setCell ⟨w.heap.size + 2, 1, none⟩ (.int .u16 0)).setCell ⟨w.heap.size + 2, 2, none⟩ (.int .u16 0)).setCell ⟨w.heap.size + 2, 3, none⟩ (.int .i64 0)).setCell ⟨w.heap.size + 2, 4, none⟩ (.int .i64 0)).setCell ⟨w.heap.size + 2, 5, none⟩ (.int .u16 0)).setCell ⟨w.heap.size + 2, 6, none⟩ (.int .u16 0)).setCell ⟨w.heap.size + 2, 7, none⟩ (.int .u16 0)).setCell ⟨w.heap.size + 2, 8, none⟩ (.int .i64 0)).setCell ⟨w.heap.size + 2, 9, none⟩ (.int .i64 0)).setCell ⟨w.heap.size + 2, 10, none⟩ (.bool false)) = wf at *
    obtain ⟨e0, e1, e2, e3, e4, e5, e6, e7, e8, e9, e10⟩ := blk11 sF
    (try simp only [Exit.inBlock, Exit.then])
    refine bodyPost_ret (by simp [results, Tryz.results42, go_sem, e0, e1, e2, e3, e4, e5, e6, e7, e8, e9, e10]; try rfl) rfl ?_
    exact ⟨by rw [(H3.out (by simp) (by simp) (by rw [decide_eq_true HW.out]; simp)).1, (H3.out (by simp) (by simp) (by rw [decide_eq_true HW.out]; simp)).2]; try rfl, bF⟩
 ·
  go_enter Tryz.func42, Tryz.ntmps42
  go_upto_region 1 with (fail)
  generalize (((w.alloc (.cells #[.int .u16 (av : Int), .int .u16 (aw : Int), .int .u16 (al : Int), .int .i64 ae, .int .i64 ak, .int .u16 (bv : Int), .int .u16 (bw : Int), .int .u16 (bl : Int), .int .i64 be, .int .i64 bk, .bool true] 27)).alloc (.cells #[.int .u16 (cv : Int), .int .u16 (cw : Int), .int .u16 (cl : Int), .int .i64 ce, .int .i64 ck] 25)).alloc (.cells #[.int .u16 0, .int .u16 0, .int .u16 0, .int .i64 0, .int .i64 0, .int .u16 0, .int .u16 0, .int .u16 0, .int .i64 0, .int .i64 0, .bool false] 27)) = w1 at *
  have r0 := HS.out _ q0
  have K1 := HK.out.below q0 HK.out.lt
  have B1 := HB.out.trans (q0.mono HB.out.size)
  have c1 := blk11 K1
  have df := fun i => K1.frozen i
  go_wp2_with fail
  have sF := put11 (.int .u16 0) (.int .u16 0) (.int .u16 0) (.int .i64 0) (.int .i64 0) (.int .u16 0) (.int .u16 0) (.int .u16 0) (.int .i64 0) (.int .i64 0) (.bool false) K1
  have bF := below11 (g := w.heap.size + 2) (.int .u16 0) (.int .u16 0) (.int .u16 0) (.int .i64 0) (.int .i64 0) (.int .u16 0) (.int .u16 0) (.int .u16 0) (.int .i64 0) (.int .i64 0) (.bool false) B1 (by first | omega | simp)
  generalize (((((((((((w1.setCell ⟨w.heap.size + 2, 0, none⟩ (.int .u16 0)).setCell ⟨w.heap.size + 2, 1, none⟩ (.int .u16 0)).setCell ⟨w.heap.size + 2, 2, none⟩ (.int .u16 0)).setCell ⟨w.heap.size + 2, 3, none⟩ (.int .i64 0)).setCell ⟨w.heap.size + 2, 4, none⟩ (.int .i64 0)).setCell ⟨w.heap.size + 2, 5, none⟩ (.int .u16 0)).setCell ⟨w.heap.size + 2, 6, none⟩ (.int .u16 0)).setCell ⟨w.heap.size + 2, 7, none⟩ (.int .u16 0)).setCell ⟨w.heap.size + 2, 8, none⟩ (.int .i64 0)).setCell ⟨w.heap.size + 2, 9, none⟩ (.int .i64 0)).setCell ⟨w.heap.size + 2, 10, none⟩ (.bool false)) = wf at *
  obtain ⟨e0, e1, e2, e3, e4, e5, e6, e7, e8, e9, e10⟩ := blk11 sF
  (try simp only [Exit.inBlock, Exit.then])
  refine bodyPost_ret (by simp [results, Tryz.results42, go_sem, e0, e1, e2, e3, e4, e5, e6, e7, e8, e9, e10]; try rfl) rfl ?_
  exact ⟨by rw [(H1.out (by simp)).1, (H1.out (by simp)).2]; try rfl, bF⟩
end Go.Proofs.YtegnfkbmlalkeaaGreat.ref10
