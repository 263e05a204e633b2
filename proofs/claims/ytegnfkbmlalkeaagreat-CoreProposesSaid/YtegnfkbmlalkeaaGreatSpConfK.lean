/- What the landed conf tells of quorums that meet, and makes of a change. Conditions: sets are uint16 values, numbers int. -/
import Derived.Test.YtegnfkbmlalkeaaGreatSpConfI
set_option linter.unusedVariables false
set_option maxHeartbeats 16000000
set_option maxRecDepth 10000
namespace Go.Proofs.YtegnfkbmlalkeaaGreat.confi
open Go Go.RowKit kit nums se cf
theorem final_any (j : JtL) (w : World) : Calls Tryz.prog 144 #[jtV j] w fun e w' => e = .returned (jtV (finalJ j)) ∧ Below w.heap.size w w' := by
 unfold jtV finalJ
 obtain ⟨⟨av, aw, al, ae, ak⟩, ⟨bv, bw, bl, be, bk⟩, t⟩ := j
 dsimp only at *
 have k0 : Blk 27 ((w.alloc (.cells #[.int .u16 (av : Int), .int .u16 (aw : Int), .int .u16 (al : Int), .int .i64 ae, .int .i64 ak, .int .u16 (bv : Int), .int .u16 (bw : Int), .int .u16 (bl : Int), .int .i64 be, .int .i64 bk, .bool t] 27)).alloc (.cells #[.int .u16 0, .int .u16 0, .int .u16 0, .int .i64 0, .int .i64 0, .int .u16 0, .int .u16 0, .int .u16 0, .int .i64 0, .int .i64 0, .bool false] 27)) w.heap.size [.int .u16 (av : Int), .int .u16 (aw : Int), .int .u16 (al : Int), .int .i64 ae, .int .i64 ak, .int .u16 (bv : Int), .int .u16 (bw : Int), .int .u16 (bl : Int), .int .i64 be, .int .i64 bk, .bool t] := Blk.alloc (heap_alloc_new w _) _
 have k1 : Blk 27 ((w.alloc (.cells #[.int .u16 (av : Int), .int .u16 (aw : Int), .int .u16 (al : Int), .int .i64 ae, .int .i64 ak, .int .u16 (bv : Int), .int .u16 (bw : Int), .int .u16 (bl : Int), .int .i64 be, .int .i64 bk, .bool t] 27)).alloc (.cells #[.int .u16 0, .int .u16 0, .int .u16 0, .int .i64 0, .int .i64 0, .int .u16 0, .int .u16 0, .int .u16 0, .int .i64 0, .int .i64 0, .bool false] 27)) (w.heap.size + 1) [.int .u16 0, .int .u16 0, .int .u16 0, .int .i64 0, .int .i64 0, .int .u16 0, .int .u16 0, .int .u16 0, .int .i64 0, .int .i64 0, .bool false] := by have := heap_alloc_new (w.alloc (.cells #[.int .u16 (av : Int), .int .u16 (aw : Int), .int .u16 (al : Int), .int .i64 ae, .int .i64 ak, .int .u16 (bv : Int), .int .u16 (bw : Int), .int .u16 (bl : Int), .int .i64 be, .int .i64 bk, .bool t] 27)) (.cells #[.int .u16 0, .int .u16 0, .int .u16 0, .int .i64 0, .int .i64 0, .int .u16 0, .int .u16 0, .int .u16 0, .int .i64 0, .int .i64 0, .bool false] 27); rwa [show (w.alloc (.cells #[.int .u16 (av : Int), .int .u16 (aw : Int), .int .u16 (al : Int), .int .i64 ae, .int .i64 ak, .int .u16 (bv : Int), .int .u16 (bw : Int), .int .u16 (bl : Int), .int .i64 be, .int .i64 bk, .bool t] 27)).heap.size = w.heap.size + 1 by simp] at this
 have hB := ((Below.refl w.heap.size w).alloc (Nat.le_refl _) (.cells #[.int .u16 (av : Int), .int .u16 (aw : Int), .int .u16 (al : Int), .int .i64 ae, .int .i64 ak, .int .u16 (bv : Int), .int .u16 (bw : Int), .int .u16 (bl : Int), .int .i64 be, .int .i64 bk, .bool t] 27)).alloc (by simp) (.cells #[.int .u16 0, .int .u16 0, .int .u16 0, .int .i64 0, .int .i64 0, .int .u16 0, .int .u16 0, .int .u16 0, .int .i64 0, .int .i64 0, .bool false] 27)
 have c0 := blk11 k0
 have c1 := blk11 k1
 have df := fun i => k1.frozen i
 clear k0
 have hB2 := Lh hB
 have K1 := Lh k1
 clear k1 hB
 cases t
 ·
  go_enter Tryz.func144, Tryz.ntmps144
  go_upto_region 1 with (fail)
  generalize ((w.alloc (.cells #[.int .u16 (av : Int), .int .u16 (aw : Int), .int .u16 (al : Int), .int .i64 ae, .int .i64 ak, .int .u16 (bv : Int), .int .u16 (bw : Int), .int .u16 (bl : Int), .int .i64 be, .int .i64 bk, .bool false] 27)).alloc (.cells #[.int .u16 0, .int .u16 0, .int .u16 0, .int .i64 0, .int .i64 0, .int .u16 0, .int .u16 0, .int .u16 0, .int .i64 0, .int .i64 0, .bool false] 27)) = w1 at *
  go_wp2_with fail
  have sF := put11 (.int .u16 (av : Int)) (.int .u16 (aw : Int)) (.int .u16 (al : Int)) (.int .i64 ae) (.int .i64 ak) (.int .u16 (bv : Int)) (.int .u16 (bw : Int)) (.int .u16 (bl : Int)) (.int .i64 be) (.int .i64 bk) (.bool false) K1.out
  have bF := below11 (g := w.heap.size + 1) (.int .u16 (av : Int)) (.int .u16 (aw : Int)) (.int .u16 (al : Int)) (.int .i64 ae) (.int .i64 ak) (.int .u16 (bv : Int)) (.int .u16 (bw : Int)) (.int .u16 (bl : Int)) (.int .i64 be) (.int .i64 bk) (.bool false) hB2.out (by first | omega | simp)
  generalize (((((((((((w1.setCell ⟨w.heap.size + 1, 0, none⟩ (.int .u16 (av : Int))).setCell ⟨w.heap.size + 1, 1, none⟩ (.int .u16 (aw : Int))).setCell ⟨w.heap.size + 1, 2, none⟩ (.int .u16 (al : Int))).setCell ⟨w.heap.size + 1, 3, none⟩ (.int .i64 ae)).setCell ⟨w.heap.size + 1, 4, none⟩ (.int .i64 ak)).setCell ⟨w.heap.size + 1, 5, none⟩ (.int .u16 (bv : Int))).setCell ⟨w.heap.size + 1, 6, none⟩ (.int .u16 (bw : Int))).setCell ⟨w.heap.size + 1, 7, none⟩ (.int .u16 (bl : Int))).setCell ⟨w.heap.size + 1, 8, none⟩ (.int .i64 be)).setCell ⟨w.heap.size + 1, 9, none⟩ (.int .i64 bk)).setCell ⟨w.heap.size + 1, 10, none⟩ (.bool false)) = wf at *
  obtain ⟨e0, e1, e2, e3, e4, e5, e6, e7, e8, e9, e10⟩ := blk11 sF
  (try simp only [Exit.inBlock, Exit.then])
  refine bodyPost_ret (by simp [results, Tryz.results144, go_sem, e0, e1, e2, e3, e4, e5, e6, e7, e8, e9, e10]; try rfl) rfl ?_
  exact ⟨by rfl, bF⟩
 ·
  go_enter Tryz.func144, Tryz.ntmps144
  go_upto_region 1 with (fail)
  generalize ((w.alloc (.cells #[.int .u16 (av : Int), .int .u16 (aw : Int), .int .u16 (al : Int), .int .i64 ae, .int .i64 ak, .int .u16 (bv : Int), .int .u16 (bw : Int), .int .u16 (bl : Int), .int .i64 be, .int .i64 bk, .bool true] 27)).alloc (.cells #[.int .u16 0, .int .u16 0, .int .u16 0, .int .i64 0, .int .i64 0, .int .u16 0, .int .u16 0, .int .u16 0, .int .i64 0, .int .i64 0, .bool false] 27)) = w1 at *
  go_wp2_with fail
  have sF := put11 (.int .u16 (bv : Int)) (.int .u16 (bw : Int)) (.int .u16 (bl : Int)) (.int .i64 be) (.int .i64 bk) (.int .u16 0) (.int .u16 0) (.int .u16 0) (.int .i64 0) (.int .i64 0) (.bool false) K1.out
  have bF := below11 (g := w.heap.size + 1) (.int .u16 (bv : Int)) (.int .u16 (bw : Int)) (.int .u16 (bl : Int)) (.int .i64 be) (.int .i64 bk) (.int .u16 0) (.int .u16 0) (.int .u16 0) (.int .i64 0) (.int .i64 0) (.bool false) hB2.out (by first | omega | simp)
  generalize (((((((((((w1.setCell ⟨w.heap.size + 1, 0, none⟩ (.int .u16 (bv : Int))).setCell ⟨w.heap.size + 1, 1, none⟩ (.int .u16 (bw : Int))).setCell ⟨w.heap.size + 1, 2, none⟩ (.int .u16 (bl : Int))).setCell ⟨w.heap.size + 1, 3, none⟩ (.int .i64 be)).setCell ⟨w.heap.size + 1, 4, none⟩ (.int .i64 bk)).setCell ⟨w.heap.size + 1, 5, none⟩ (.int .u16 0)).setCell ⟨w.heap.size + 1, 6, none⟩ (.int .u16 0)).setCell ⟨w.heap.size + 1, 7, none⟩ (.int .u16 0)).setCell ⟨w.heap.size + 1, 8, none⟩ (.int .i64 0)).setCell ⟨w.heap.size + 1, 9, none⟩ (.int .i64 0)).setCell ⟨w.heap.size + 1, 10, none⟩ (.bool false)) = wf at *
  obtain ⟨e0, e1, e2, e3, e4, e5, e6, e7, e8, e9, e10⟩ := blk11 sF
  (try simp only [Exit.inBlock, Exit.then])
  refine bodyPost_ret (by simp [results, Tryz.results144, go_sem, e0, e1, e2, e3, e4, e5, e6, e7, e8, e9, e10]; try rfl) rfl ?_
  exact ⟨by rfl, bF⟩
theorem change_any (j : JtL) (to : CfL) (w : World) (h : j.ok) (ht : to.ok) : Calls Tryz.prog 169 #[jtV j, cfV to] w fun e w' => e = .returned (.tuple #[jtV (changeJ j to), .int .i64 (changeE j to)]) ∧ Below w.heap.size w w' := by
 have CM := Lh (fun w => may_any to w ht)
 have CD := Lh (fun w => data_any j.a w h.1)
 have HX := bits_andNot_u16_nat to.v (datF j.a) ht.1 (dat_lt h.1)
 have H1 := Lh (fun h => change_two (j := j) to h)
 have H2 := Lh (fun h h2 => change_bad (j := j) (to := to) h h2)
 have H3 := Lh (fun h h2 h3 => change_step (j := j) (to := to) h h2 h3)
 have H4 := Lh (fun h h2 h3 => change_goes (j := j) (to := to) h h2 h3)
 unfold stepB at H3 H4
 generalize changeJ j to = R at *
 generalize changeE j to = E at *
 generalize to.v ^^^ (to.v &&& datF j.a) = z at *
 generalize datF j.a = d at *
 generalize mayC to = m at *
 clear h ht
 obtain ⟨⟨av, aw, al, ae, ak⟩, ⟨bv, bw, bl, be, bk⟩, t⟩ := j
 obtain ⟨cv, cw, cl, ce, ck⟩ := to
 unfold jtV cfV at *
 dsimp only at *
 have k0 : Blk 27 (((w.alloc (.cells #[.int .u16 (av : Int), .int .u16 (aw : Int), .int .u16 (al : Int), .int .i64 ae, .int .i64 ak, .int .u16 (bv : Int), .int .u16 (bw : Int), .int .u16 (bl : Int), .int .i64 be, .int .i64 bk, .bool t] 27)).alloc (.cells #[.int .u16 (cv : Int), .int .u16 (cw : Int), .int .u16 (cl : Int), .int .i64 ce, .int .i64 ck] 25)).alloc (.cells #[.int .u16 0, .int .u16 0, .int .u16 0, .int .i64 0, .int .i64 0, .int .u16 0, .int .u16 0, .int .u16 0, .int .i64 0, .int .i64 0, .bool false] 27)) w.heap.size [.int .u16 (av : Int), .int .u16 (aw : Int), .int .u16 (al : Int), .int .i64 ae, .int .i64 ak, .int .u16 (bv : Int), .int .u16 (bw : Int), .int .u16 (bl : Int), .int .i64 be, .int .i64 bk, .bool t] := Blk.alloc (Blk.alloc (heap_alloc_new w _) _) _
 have k1 : Blk 25 (((w.alloc (.cells #[.int .u16 (av : Int), .int .u16 (aw : Int), .int .u16 (al : Int), .int .i64 ae, .int .i64 ak, .int .u16 (bv : Int), .int .u16 (bw : Int), .int .u16 (bl : Int), .int .i64 be, .int .i64 bk, .bool t] 27)).alloc (.cells #[.int .u16 (cv : Int), .int .u16 (cw : Int), .int .u16 (cl : Int), .int .i64 ce, .int .i64 ck] 25)).alloc (.cells #[.int .u16 0, .int .u16 0, .int .u16 0, .int .i64 0, .int .i64 0, .int .u16 0, .int .u16 0, .int .u16 0, .int .i64 0, .int .i64 0, .bool false] 27)) (w.heap.size + 1) [.int .u16 (cv : Int), .int .u16 (cw : Int), .int .u16 (cl : Int), .int .i64 ce, .int .i64 ck] := Blk.alloc (by have := heap_alloc_new (w.alloc (.cells #[.int .u16 (av : Int), .int .u16 (aw : Int), .int .u16 (al : Int), .int .i64 ae, .int .i64 ak, .int .u16 (bv : Int), .int .u16 (bw : Int), .int .u16 (bl : Int), .int .i64 be, .int .i64 bk, .bool t] 27)) (.cells #[.int .u16 (cv : Int), .int .u16 (cw : Int), .int .u16 (cl : Int), .int .i64 ce, .int .i64 ck] 25); rwa [show (w.alloc (.cells #[.int .u16 (av : Int), .int .u16 (aw : Int), .int .u16 (al : Int), .int .i64 ae, .int .i64 ak, .int .u16 (bv : Int), .int .u16 (bw : Int), .int .u16 (bl : Int), .int .i64 be, .int .i64 bk, .bool t] 27)).heap.size = w.heap.size + 1 by simp] at this) _
 have k2 : Blk 27 (((w.alloc (.cells #[.int .u16 (av : Int), .int .u16 (aw : Int), .int .u16 (al : Int), .int .i64 ae, .int .i64 ak, .int .u16 (bv : Int), .int .u16 (bw : Int), .int .u16 (bl : Int), .int .i64 be, .int .i64 bk, .bool t] 27)).alloc (.cells #[.int .u16 (cv : Int), .int .u16 (cw : Int), .int .u16 (cl : Int), .int .i64 ce, .int .i64 ck] 25)).alloc (.cells #[.int .u16 0, .int .u16 0, .int .u16 0, .int .i64 0, .int .i64 0, .int .u16 0, .int .u16 0, .int .u16 0, .int .i64 0, .int .i64 0, .bool false] 27)) (w.heap.size + 2) [.int .u16 0, .int .u16 0, .int .u16 0, .int .i64 0, .int .i64 0, .int .u16 0, .int .u16 0, .int .u16 0, .int .i64 0, .int .i64 0, .bool false] := by have := heap_alloc_new ((w.alloc (.cells #[.int .u16 (av : Int), .int .u16 (aw : Int), .int .u16 (al : Int), .int .i64 ae, .int .i64 ak, .int .u16 (bv : Int), .int .u16 (bw : Int), .int .u16 (bl : Int), .int .i64 be, .int .i64 bk, .bool t] 27)).alloc (.cells #[.int .u16 (cv : Int), .int .u16 (cw : Int), .int .u16 (cl : Int), .int .i64 ce, .int .i64 ck] 25)) (.cells #[.int .u16 0, .int .u16 0, .int .u16 0, .int .i64 0, .int .i64 0, .int .u16 0, .int .u16 0, .int .u16 0, .int .i64 0, .int .i64 0, .bool false] 27); rwa [show ((w.alloc (.cells #[.int .u16 (av : Int), .int .u16 (aw : Int), .int .u16 (al : Int), .int .i64 ae, .int .i64 ak, .int .u16 (bv : Int), .int .u16 (bw : Int), .int .u16 (bl : Int), .int .i64 be, .int .i64 bk, .bool t] 27)).alloc (.cells #[.int .u16 (cv : Int), .int .u16 (cw : Int), .int .u16 (cl : Int), .int .i64 ce, .int .i64 ck] 25)).heap.size = w.heap.size + 2 by simp] at this
 have HB := Lh ((((Below.refl w.heap.size w).alloc (Nat.le_refl _) (.cells #[.int .u16 (av : Int), .int .u16 (aw : Int), .int .u16 (al : Int), .int .i64 ae, .int .i64 ak, .int .u16 (bv : Int), .int .u16 (bw : Int), .int .u16 (bl : Int), .int .i64 be, .int .i64 bk, .bool t] 27)).alloc (by simp; try omega) (.cells #[.int .u16 (cv : Int), .int .u16 (cw : Int), .int .u16 (cl : Int), .int .i64 ce, .int .i64 ck] 25)).alloc (by simp; try omega) (.cells #[.int .u16 0, .int .u16 0, .int .u16 0, .int .i64 0, .int .i64 0, .int .u16 0, .int .u16 0, .int .u16 0, .int .i64 0, .int .i64 0, .bool false] 27))
 have HS : Hid (∀ wq, Below (((w.alloc (.cells #[.int .u16 (av : Int), .int .u16 (aw : Int), .int .u16 (al : Int), .int .i64 ae, .int .i64 ak, .int .u16 (bv : Int), .int .u16 (bw : Int), .int .u16 (bl : Int), .int .i64 be, .int .i64 bk, .bool t] 27)).alloc (.cells #[.int .u16 (cv : Int), .int .u16 (cw : Int), .int .u16 (cl : Int), .int .i64 ce, .int .i64 ck] 25)).alloc (.cells #[.int .u16 0, .int .u16 0, .int .u16 0, .int .i64 0, .int .i64 0, .int .u16 0, .int .u16 0, .int .u16 0, .int .i64 0, .int .i64 0, .bool false] 27)).heap.size (((w.alloc (.cells #[.int .u16 (av : Int), .int .u16 (aw : Int), .int .u16 (al : Int), .int .i64 ae, .int .i64 ak, .int .u16 (bv : Int), .int .u16 (bw : Int), .int .u16 (bl : Int), .int .i64 be, .int .i64 bk, .bool t] 27)).alloc (.cells #[.int .u16 (cv : Int), .int .u16 (cw : Int), .int .u16 (cl : Int), .int .i64 ce, .int .i64 ck] 25)).alloc (.cells #[.int .u16 0, .int .u16 0, .int .u16 0, .int .i64 0, .int .i64 0, .int .u16 0, .int .u16 0, .int .u16 0, .int .i64 0, .int .i64 0, .bool false] 27)) wq → (wq.cell? ⟨w.heap.size, 0, none⟩ = some (.int .u16 (av : Int)) ∧ wq.cell? ⟨w.heap.size, 1, none⟩ = some (.int .u16 (aw : Int)) ∧ wq.cell? ⟨w.heap.size, 2, none⟩ = some (.int .u16 (al : Int)) ∧ wq.cell? ⟨w.heap.size, 3, none⟩ = some (.int .i64 ae) ∧ wq.cell? ⟨w.heap.size, 4, none⟩ = some (.int .i64 ak) ∧ wq.cell? ⟨w.heap.size, 5, none⟩ = some (.int .u16 (bv : Int)) ∧ wq.cell? ⟨w.heap.size, 6, none⟩ = some (.int .u16 (bw : Int)) ∧ wq.cell? ⟨w.heap.size, 7, none⟩ = some (.int .u16 (bl : Int)) ∧ wq.cell? ⟨w.heap.size, 8, none⟩ = some (.int .i64 be) ∧ wq.cell? ⟨w.heap.size, 9, none⟩ = some (.int .i64 bk) ∧ wq.cell? ⟨w.heap.size, 10, none⟩ = some (.bool t)) ∧ (wq.cell? ⟨w.heap.size + 1, 0, none⟩ = some (.int .u16 (cv : Int)) ∧ wq.cell? ⟨w.heap.size + 1, 1, none⟩ = some (.int .u16 (cw : Int)) ∧ wq.cell? ⟨w.heap.size + 1, 2, none⟩ = some (.int .u16 (cl : Int)) ∧ wq.cell? ⟨w.heap.size + 1, 3, none⟩ = some (.int .i64 ce) ∧ wq.cell? ⟨w.heap.size + 1, 4, none⟩ = some (.int .i64 ck))) := fun wq hq => ⟨blk11 (k0.below hq k0.lt), blk5 (k1.below hq k1.lt)⟩
 have HK := Lh k2
 have q0 := Below.refl (((w.alloc (.cells #[.int .u16 (av : Int), .int .u16 (aw : Int), .int .u16 (al : Int), .int .i64 ae, .int .i64 ak, .int .u16 (bv : Int), .int .u16 (bw : Int), .int .u16 (bl : Int), .int .i64 be, .int .i64 bk, .bool t] 27)).alloc (.cells #[.int .u16 (cv : Int), .int .u16 (cw : Int), .int .u16 (cl : Int), .int .i64 ce, .int .i64 ck] 25)).alloc (.cells #[.int .u16 0, .int .u16 0, .int .u16 0, .int .i64 0, .int .i64 0, .int .u16 0, .int .u16 0, .int .u16 0, .int .i64 0, .int .i64 0, .bool false] 27)).heap.size (((w.alloc (.cells #[.int .u16 (av : Int), .int .u16 (aw : Int), .int .u16 (al : Int), .int .i64 ae, .int .i64 ak, .int .u16 (bv : Int), .int .u16 (bw : Int), .int .u16 (bl : Int), .int .i64 be, .int .i64 bk, .bool t] 27)).alloc (.cells #[.int .u16 (cv : Int), .int .u16 (cw : Int), .int .u16 (cl : Int), .int .i64 ce, .int .i64 ck] 25)).alloc (.cells #[.int .u16 0, .int .u16 0, .int .u16 0, .int .i64 0, .int .i64 0, .int .u16 0, .int .u16 0, .int .u16 0, .int .i64 0, .int .i64 0, .bool false] 27))
 clear k0 k1 k2
 cases t
 ·
  go_enter Tryz.func169, Tryz.ntmps169
  go_upto_region 1 with (fail)
  generalize (((w.alloc (.cells #[.int .u16 (av : Int), .int .u16 (aw : Int), .int .u16 (al : Int), .int .i64 ae, .int .i64 ak, .int .u16 (bv : Int), .int .u16 (bw : Int), .int .u16 (bl : Int), .int .i64 be, .int .i64 bk, .bool false] 27)).alloc (.cells #[.int .u16 (cv : Int), .int .u16 (cw : Int), .int .u16 (cl : Int), .int .i64 ce, .int .i64 ck] 25)).alloc (.cells #[.int .u16 0, .int .u16 0, .int .u16 0, .int .i64 0, .int .i64 0, .int .u16 0, .int .u16 0, .int .u16 0, .int .i64 0, .int .i64 0, .bool false] 27)) = w1 at *
  have r0 := HS.out _ q0
  cases m
  ·
   go_wp2_with fail
   refine (CM.out _).mono ?_
   rintro e y1 ⟨rfl, hY1⟩
   have q1 := q0.trans (hY1.mono q0.size)
   have r1 := HS.out _ q1
   have K2 := HK.out.below q1 HK.out.lt
   have B2 := HB.out.trans (q1.mono HB.out.size)
   have c2 := blk11 K2
   have df := fun i => K2.frozen i
   go_wp2_with fail
   have sF := put11 (.int .u16 0) (.int .u16 0) (.int .u16 0) (.int .i64 0) (.int .i64 0) (.int .u16 0) (.int .u16 0) (.int .u16 0) (.int .i64 0) (.int .i64 0) (.bool false) K2
   have bF := below11 (g := w.heap.size + 2) (.int .u16 0) (.int .u16 0) (.int .u16 0) (.int .i64 0) (.int .i64 0) (.int .u16 0) (.int .u16 0) (.int .u16 0) (.int .i64 0) (.int .i64 0) (.bool false) B2 (by first | omega | simp)
   generalize (((((((((((y1.setCell ⟨w.heap.size + 2, 0, none⟩ (.int .u16 0)).setCell ⟨w.heap.size + 2, 1, none⟩ (.int .u16 0)).setCell ⟨w.heap.size + 2, 2, none⟩ (.int .u16 0)).setCell ⟨w.heap.size + 2, 3, none⟩ (.int .i64 0)).setCell ⟨w.heap.size + 2, 4, none⟩ (.int .i64 0)).setCell ⟨w.heap.size + 2, 5, none⟩ (.int .u16 0)).setCell ⟨w.heap.size + 2, 6, none⟩ (.int .u16 0)).setCell ⟨w.heap.size + 2, 7, none⟩ (.int .u16 0)).setCell ⟨w.heap.size + 2, 8, none⟩ (.int .i64 0)).setCell ⟨w.heap.size + 2, 9, none⟩ (.int .i64 0)).setCell ⟨w.heap.size + 2, 10, none⟩ (.bool false)) = wf at *
   obtain ⟨e0, e1, e2, e3, e4, e5, e6, e7, e8, e9, e10⟩ := blk11 sF
   (try simp only [Exit.inBlock, Exit.then])
   refine bodyPost_ret (by simp [results, Tryz.results169, go_sem, e0, e1, e2, e3, e4, e5, e6, e7, e8, e9, e10]; try rfl) rfl ?_
   exact ⟨by rw [(H2.out (by simp) (by simp)).1, (H2.out (by simp) (by simp)).2]; try rfl, bF⟩
  ·
   go_wp2_with fail
   refine (CM.out _).mono ?_
   rintro e y1 ⟨rfl, hY1⟩
   have q1 := q0.trans (hY1.mono q0.size)
   have r1 := HS.out _ q1
   go_upto_region 5 with (fail)
   by_cases hw : cw = aw
   ·
    have g1 : ((cw : Int) != (aw : Int)) = false := by rw [bne_eq_false_iff_eq]; omega
    have HW := Lh hw
    clear hw
    by_cases hz : z = 0
    ·
     have g2 : ((z : Int) != 0) = false := by rw [bne_eq_false_iff_eq]; omega
     have HZ := Lh hz
     clear hz
     have q2 := q1.drew
     refine wp_region_held_drew (S := fun wq => (wq.cell? ⟨w.heap.size, 0, none⟩ = some (.int .u16 (av : Int)) ∧ wq.cell? ⟨w.heap.size, 1, none⟩ = some (.int .u16 (aw : Int)) ∧ wq.cell? ⟨w.heap.size, 2, none⟩ = some (.int .u16 (al : Int)) ∧ wq.cell? ⟨w.heap.size, 3, none⟩ = some (.int .i64 ae) ∧ wq.cell? ⟨w.heap.size, 4, none⟩ = some (.int .i64 ak) ∧ wq.cell? ⟨w.heap.size, 5, none⟩ = some (.int .u16 (bv : Int)) ∧ wq.cell? ⟨w.heap.size, 6, none⟩ = some (.int .u16 (bw : Int)) ∧ wq.cell? ⟨w.heap.size, 7, none⟩ = some (.int .u16 (bl : Int)) ∧ wq.cell? ⟨w.heap.size, 8, none⟩ = some (.int .i64 be) ∧ wq.cell? ⟨w.heap.size, 9, none⟩ = some (.int .i64 bk) ∧ wq.cell? ⟨w.heap.size, 10, none⟩ = some (.bool false)) ∧ (wq.cell? ⟨w.heap.size + 1, 0, none⟩ = some (.int .u16 (cv : Int)) ∧ wq.cell? ⟨w.heap.size + 1, 1, none⟩ = some (.int .u16 (cw : Int)) ∧ wq.cell? ⟨w.heap.size + 1, 2, none⟩ = some (.int .u16 (cl : Int)) ∧ wq.cell? ⟨w.heap.size + 1, 3, none⟩ = some (.int .i64 ce) ∧ wq.cell? ⟨w.heap.size + 1, 4, none⟩ = some (.int .i64 ck))) (by kernel_rfl) ?s_lch5a (fun hHeld => ?_)
     case s_lch5a => exact HS.out _ q2
     iterate 11 (refine tx 0 _ ?_; try simp only [Act.put, ka, kb, kc])
     refine rr [11] ?_
     refine rc (fun KQ hKQ => ?_) AllReadyH.nil
     go_simp
     refine (CD.out _).mono ?_
     rintro e y3 ⟨rfl, hY3⟩
     have q3 := q2.trans (hY3.mono q2.size)
     have r3 := HS.out _ q3
     go_wp2_with fail
     refine hKQ.out _ _ (r3) (fun _ => ?_)
     clear hKQ KQ
     try simp only [Act.put, ka, kb, kc]
     iterate 3 (refine tx 12 _ ?_; try simp only [Act.put, ka, kb, kc])
     refine wpAnyH_done (by kernel_rfl) ?_ _
     have K4 := HK.out.below q3 HK.out.lt
     have B4 := HB.out.trans (q3.mono HB.out.size)
     have c4 := blk11 K4
     have df := fun i => K4.frozen i
     clear g1 g2
     go_wp2_with fail
     have sF := put11 (.int .u16 (av : Int)) (.int .u16 (aw : Int)) (.int .u16 (al : Int)) (.int .i64 ae) (.int .i64 ak) (.int .u16 (cv : Int)) (.int .u16 (cw : Int)) (.int .u16 (cl : Int)) (.int .i64 ce) (.int .i64 ck) (.bool true) K4
     have bF := below11 (g := w.heap.size + 2) (.int .u16 (av : Int)) (.int .u16 (aw : Int)) (.int .u16 (al : Int)) (.int .i64 ae) (.int .i64 ak) (.int .u16 (cv : Int)) (.int .u16 (cw : Int)) (.int .u16 (cl : Int)) (.int .i64 ce) (.int .i64 ck) (.bool true) B4 (by first | omega | simp)
     generalize (((((((((((y3.setCell ⟨w.heap.size + 2, 0, none⟩ (.int .u16 (av : Int))).setCell ⟨w.heap.size + 2, 1, none⟩ (.int .u16 (aw : Int))).setCell ⟨w.heap.size + 2, 2, none⟩ (.int .u16 (al : Int))).setCell ⟨w.heap.size + 2, 3, none⟩ (.int .i64 ae)).setCell ⟨w.heap.size + 2, 4, none⟩ (.int .i64 ak)).setCell ⟨w.heap.size + 2, 5, none⟩ (.int .u16 (cv : Int))).setCell ⟨w.heap.size + 2, 6, none⟩ (.int .u16 (cw : Int))).setCell ⟨w.heap.size + 2, 7, none⟩ (.int .u16 (cl : Int))).setCell ⟨w.heap.size + 2, 8, none⟩ (.int .i64 ce)).setCell ⟨w.heap.size + 2, 9, none⟩ (.int .i64 ck)).setCell ⟨w.heap.size + 2, 10, none⟩ (.bool true)) = wf at *
     obtain ⟨e0, e1, e2, e3, e4, e5, e6, e7, e8, e9, e10⟩ := blk11 sF
     (try simp only [Exit.inBlock, Exit.then])
     refine bodyPost_ret (by simp [results, Tryz.results169, go_sem, e0, e1, e2, e3, e4, e5, e6, e7, e8, e9, e10]; try rfl) rfl ?_
     exact ⟨by rw [(H4.out (by simp) (by simp) (by rw [HZ.out, HW.out]; simp)).1, (H4.out (by simp) (by simp) (by rw [HZ.out, HW.out]; simp)).2]; try rfl, bF⟩
    ·
     have g2 : ((z : Int) != 0) = true := by rw [bne_iff_ne]; omega
     have HZ := Lh hz
     clear hz
     have q2 := q1.drew
     refine wp_region_held_drew (S := fun wq => (wq.cell? ⟨w.heap.size, 0, none⟩ = some (.int .u16 (av : Int)) ∧ wq.cell? ⟨w.heap.size, 1, none⟩ = some (.int .u16 (aw : Int)) ∧ wq.cell? ⟨w.heap.size, 2, none⟩ = some (.int .u16 (al : Int)) ∧ wq.cell? ⟨w.heap.size, 3, none⟩ = some (.int .i64 ae) ∧ wq.cell? ⟨w.heap.size, 4, none⟩ = some (.int .i64 ak) ∧ wq.cell? ⟨w.heap.size, 5, none⟩ = some (.int .u16 (bv : Int)) ∧ wq.cell? ⟨w.heap.size, 6, none⟩ = some (.int .u16 (bw : Int)) ∧ wq.cell? ⟨w.heap.size, 7, none⟩ = some (.int .u16 (bl : Int)) ∧ wq.cell? ⟨w.heap.size, 8, none⟩ = some (.int .i64 be) ∧ wq.cell? ⟨w.heap.size, 9, none⟩ = some (.int .i64 bk) ∧ wq.cell? ⟨w.heap.size, 10, none⟩ = some (.bool false)) ∧ (wq.cell? ⟨w.heap.size + 1, 0, none⟩ = some (.int .u16 (cv : Int)) ∧ wq.cell? ⟨w.heap.size + 1, 1, none⟩ = some (.int .u16 (cw : Int)) ∧ wq.cell? ⟨w.heap.size + 1, 2, none⟩ = some (.int .u16 (cl : Int)) ∧ wq.cell? ⟨w.heap.size + 1, 3, none⟩ = some (.int .i64 ce) ∧ wq.cell? ⟨w.heap.size + 1, 4, none⟩ = some (.int .i64 ck))) (by kernel_rfl) ?s_lch5b (fun hHeld => ?_)
     case s_lch5b => exact HS.out _ q2
     iterate 11 (refine tx 0 _ ?_; try simp only [Act.put, ka, kb, kc])
     refine rr [11] ?_
     refine rc (fun KQ hKQ => ?_) AllReadyH.nil
     go_simp
     refine (CD.out _).mono ?_
     rintro e y3 ⟨rfl, hY3⟩
     have q3 := q2.trans (hY3.mono q2.size)
     have r3 := HS.out _ q3
     go_wp2_with fail
     refine hKQ.out _ _ (r3) (fun _ => ?_)
     clear hKQ KQ
     try simp only [Act.put, ka, kb, kc]
     iterate 3 (refine tx 12 _ ?_; try simp only [Act.put, ka, kb, kc])
     refine wpAnyH_done (by kernel_rfl) ?_ _
     have K4 := HK.out.below q3 HK.out.lt
     have B4 := HB.out.trans (q3.mono HB.out.size)
     have c4 := blk11 K4
     have df := fun i => K4.frozen i
     clear g1 g2
     go_wp2_with fail
     have sF := put11 (.int .u16 0) (.int .u16 0) (.int .u16 0) (.int .i64 0) (.int .i64 0) (.int .u16 0) (.int .u16 0) (.int .u16 0) (.int .i64 0) (.int .i64 0) (.bool false) K4
     have bF := below11 (g := w.heap.size + 2) (.int .u16 0) (.int .u16 0) (.int .u16 0) (.int .i64 0) (.int .i64 0) (.int .u16 0) (.int .u16 0) (.int .u16 0) (.int .i64 0) (.int .i64 0) (.bool false) B4 (by first | omega | simp)
     generalize (((((((((((y3.setCell ⟨w.heap.size + 2, 0, none⟩ (.int .u16 0)).setCell ⟨w.heap.size + 2, 1, none⟩ (.int .u16 0)).setCell ⟨w.heap.size + 2, 2, none⟩ (.int .u16 0)).setCell ⟨w.heap.size + 2, 3, none⟩ (.int .i64 0)).setCell ⟨w.heap.size + 2, 4, none⟩ (.int .i64 0)).setCell ⟨w.heap.size + 2, 5, none⟩ (.int .u16 0)).setCell ⟨w.heap.size + 2, 6, none⟩ (.int .u16 0)).setCell ⟨w.heap.size + 2, 7, none⟩ (.int .u16 0)).setCell ⟨w.heap.size + 2, 8, none⟩ (.int .i64 0)).setCell ⟨w.heap.size + 2, 9, none⟩ (.int .i64 0)).setCell ⟨w.heap.size + 2, 10, none⟩ (.bool false)) = wf at *
     obtain ⟨e0, e1, e2, e3, e4, e5, e6, e7, e8, e9, e10⟩ := blk11 sF
     (try simp only [Exit.inBlock, Exit.then])
     refine bodyPost_ret (by simp [results, Tryz.results169, go_sem, e0, e1, e2, e3, e4, e5, e6, e7, e8, e9, e10]; try rfl) rfl ?_
     exact ⟨by rw [(H3.out (by simp) (by simp) (by rw [decide_eq_true HZ.out]; simp)).1, (H3.out (by simp) (by simp) (by rw [decide_eq_true HZ.out]; simp)).2]; try rfl, bF⟩
   ·
    have g1 : ((cw : Int) != (aw : Int)) = true := by rw [bne_iff_ne]; omega
    have HW := Lh hw
    clear hw
    have q2 := q1.drew
    refine wp_region_held_drew (S := fun wq => (wq.cell? ⟨w.heap.size, 0, none⟩ = some (.int .u16 (av : Int)) ∧ wq.cell? ⟨w.heap.size, 1, none⟩ = some (.int .u16 (aw : Int)) ∧ wq.cell? ⟨w.heap.size, 2, none⟩ = some (.int .u16 (al : Int)) ∧ wq.cell? ⟨w.heap.size, 3, none⟩ = some (.int .i64 ae) ∧ wq.cell? ⟨w.heap.size, 4, none⟩ = some (.int .i64 ak) ∧ wq.cell? ⟨w.heap.size, 5, none⟩ = some (.int .u16 (bv : Int)) ∧ wq.cell? ⟨w.heap.size, 6, none⟩ = some (.int .u16 (bw : Int)) ∧ wq.cell? ⟨w.heap.size, 7, none⟩ = some (.int .u16 (bl : Int)) ∧ wq.cell? ⟨w.heap.size, 8, none⟩ = some (.int .i64 be) ∧ wq.cell? ⟨w.heap.size, 9, none⟩ = some (.int .i64 bk) ∧ wq.cell? ⟨w.heap.size, 10, none⟩ = some (.bool false)) ∧ (wq.cell? ⟨w.heap.size + 1, 0, none⟩ = some (.int .u16 (cv : Int)) ∧ wq.cell? ⟨w.heap.size + 1, 1, none⟩ = some (.int .u16 (cw : Int)) ∧ wq.cell? ⟨w.heap.size + 1, 2, none⟩ = some (.int .u16 (cl : Int)) ∧ wq.cell? ⟨w.heap.size + 1, 3, none⟩ = some (.int .i64 ce) ∧ wq.cell? ⟨w.heap.size + 1, 4, none⟩ = some (.int .i64 ck))) (by kernel_rfl) ?s_lch5c (fun hHeld => ?_)
    case s_lch5c => exact HS.out _ q2
    iterate 7 (refine tx 0 _ ?_; try simp only [Act.put, ka, kb, kc])
    refine tv 7 ?_
    try simp only [Act.put, ka, kb, kc]
    refine tv 8 ?_
    try simp only [Act.put, ka, kb, kc]
    refine tv 9 ?_
    try simp only [Act.put, ka, kb, kc]
    refine tv 10 ?_
    try simp only [Act.put, ka, kb, kc]
    refine tv 11 ?_
    try simp only [Act.put, ka, kb, kc]
    refine tv 12 ?_
    try simp only [Act.put, ka, kb, kc]
    refine tv 13 ?_
    try simp only [Act.put, ka, kb, kc]
    refine tj 14 _ ?_
    try simp only [Act.put, ka, kb, kc]
    refine wpAnyH_done (by kernel_rfl) ?_ _
    generalize y1.drew = wd at *
    have K3 := HK.out.below q2 HK.out.lt
    have B3 := HB.out.trans (q2.mono HB.out.size)
    have c3 := blk11 K3
    have df := fun i => K3.frozen i
    clear g1
    go_wp2_with fail
    have sF := put11 (.int .u16 0) (.int .u16 0) (.int .u16 0) (.int .i64 0) (.int .i64 0) (.int .u16 0) (.int .u16 0) (.int .u16 0) (.int .i64 0) (.int .i64 0) (.bool false) K3
    have bF := below11 (g := w.heap.size + 2) (.int .u16 0) (.int .u16 0) (.int .u16 0) (.int .i64 0) (.int .i64 0) (.int .u16 0) (.int .u16 0) (.int .u16 0) (.int .i64 0) (.int .i64 0) (.bool false) B3 (by first | omega | simp)
    generalize (((((((((((wd.setCell ⟨w.heap.size + 2, 0, none⟩ (.int .u16 0)).setCell ⟨w.heap.size + 2, 1, none⟩ (.int .u16 0)).setCell ⟨w.heap.size + 2, 2, none⟩ (.int .u16 0)).setCell ⟨w.heap.size + 2, 3, none⟩ (.int .i64 0)).setCell ⟨w.heap.size + 2, 4, none⟩ (.int .i64 0)).setCell ⟨w.heap.size + 2, 5, none⟩ (.int .u16 0)).setCell ⟨w.heap.size + 2, 6, none⟩ (.int .u16 0)).setCell ⟨w.heap.size + 2, 7, none⟩ (.int .u16 0)).setCell ⟨w.heap.size + 2, 8, none⟩ (.int .i64 0)).setCell ⟨w.heap.size + 2, 9, none⟩ (.int .i64 0)).setCell ⟨w.heap.size + 2, 10, none⟩ (.bool false)) = wf at *
    obtain ⟨e0, e1, e2, e3, e4, e5, e6, e7, e8, e9, e10⟩ := blk11 sF
    (try simp only [Exit.inBlock, Exit.then])
    refine bodyPost_ret (by simp [results, Tryz.results169, go_sem, e0, e1, e2, e3, e4, e5, e6, e7, e8, e9, e10]; try rfl) rfl ?_
    exact ⟨by rw [(H3.out (by simp) (by simp) (by rw [decide_eq_true HW.out]; simp)).1, (H3.out (by simp) (by simp) (by rw [decide_eq_true HW.out]; simp)).2]; try rfl, bF⟩
 ·
  go_enter Tryz.func169, Tryz.ntmps169
  go_upto_region 1 with (fail)
  generalize (((w.alloc (.cells #[.int .u16 (av : Int), .int .u16 (aw : Int), .int .u16 (al : Int), .int .i64 ae, .int .i64 ak, .int .u16 (bv : Int), .int .u16 (bw : Int), .int .u16 (bl : Int), .int .i64 be, .int .i64 bk, .bool true] 27)).alloc (.cells #[.int .u16 (cv : Int), .int .u16 (cw : Int), .int .u16 (cl : Int), .int .i64 ce, .int .i64 ck] 25)).alloc (.cells #[.int .u16 0, .int .u16 0, .int .u16 0, .int .i64 0, .int .i64 0, .int .u16 0, .int .u16 0, .int .u16 0, .int .i64 0, .int .i64 0, .bool false] 27)) = w1 at *
  have r0 := HS.out _ q0
  have K1 := HK.out.below q0 HK.out.lt
  have B1 := HB.out.trans (q0.mono HB.out.size)
  have c1 := blk11 K1
  have df := fun i => K1.frozen i
  go_wp2_with fail
  have sF := put11 (.int .u16 0) (.int .u16 0) (.int .u16 0) (.int .i64 0) (.int .i64 0) (.int .u16 0) (.int .u16 0) (.int .u16 0) (.int .i64 0) (.int .i64 0) (.bool false) K1
  have bF := below11 (g := w.heap.size + 2) (.int .u16 0) (.int .u16 0) (.int .u16 0) (.int .i64 0) (.int .i64 0) (.int .u16 0) (.int .u16 0) (.int .u16 0) (.int .i64 0) (.int .i64 0) (.bool false) B1 (by first | omega | simp)
  generalize (((((((((((w1.setCell ⟨w.heap.size + 2, 0, none⟩ (.int .u16 0)).setCell ⟨w.heap.size + 2, 1, none⟩ (.int .u16 0)).setCell ⟨w.heap.size + 2, 2, none⟩ (.int .u16 0)).setCell ⟨w.heap.size + 2, 3, none⟩ (.int .i64 0)).setCell ⟨w.heap.size + 2, 4, none⟩ (.int .i64 0)).setCell ⟨w.heap.size + 2, 5, none⟩ (.int .u16 0)).setCell ⟨w.heap.size + 2, 6, none⟩ (.int .u16 0)).setCell ⟨w.heap.size + 2, 7, none⟩ (.int .u16 0)).setCell ⟨w.heap.size + 2, 8, none⟩ (.int .i64 0)).setCell ⟨w.heap.size + 2, 9, none⟩ (.int .i64 0)).setCell ⟨w.heap.size + 2, 10, none⟩ (.bool false)) = wf at *
  obtain ⟨e0, e1, e2, e3, e4, e5, e6, e7, e8, e9, e10⟩ := blk11 sF
  (try simp only [Exit.inBlock, Exit.then])
  refine bodyPost_ret (by simp [results, Tryz.results169, go_sem, e0, e1, e2, e3, e4, e5, e6, e7, e8, e9, e10]; try rfl) rfl ?_
  exact ⟨by rw [(H1.out (by simp)).1, (H1.out (by simp)).2]; try rfl, bF⟩
end Go.Proofs.YtegnfkbmlalkeaaGreat.confi
