/- ConfChanges answers true: which changes there are, and where they end. Conditions: sets are uint16 values, numbers int. -/
import Derived.Test.YtdpfpcdoocampaaBegun10
import Derived.Test.YtdpfpcdoocampaaRef10e
namespace Go.Proofs.Ytdpfpcdoocampaa.law10
open Go Go.RowKit Go.Proofs.Ytdpfpcdoocampaa.kit Go.Proofs.Ytdpfpcdoocampaa.nums Go.Proofs.Ytdpfpcdoocampaa.se Go.Proofs.Ytdpfpcdoocampaa.cf
set_option linter.unusedVariables false

set_option maxHeartbeats 4000000 in
theorem changes_walk (j : JtL) (to : CfL) (w : World) (h : j.ok) (ht : to.ok) : Calls Try.prog 4 #[jtV j, cfV to] w fun e w' => e = .returned (.bool true) ∧ Below w.heap.size w w' := by
  have CB := Lib.hid (fun w => begun_any w)
  have RJ := Lib.hid (fun w => ref10.mayJ_any j w h)
  have L1 := Lib.hid (fun w => confi.change_any j to w h ht)
  have R1 := Lib.hid (fun hm w => ref10.change_any j to w h ht hm)
  have LF := Lib.hid (fun w => confi.final_any j w)
  have RF := Lib.hid (fun w => ref10.final_any j w)
  have LG := Lib.hid (fun w => confi.final_any (changeJ j to) w)
  have RG := Lib.hid (fun w => ref10.final_any (changeJ j to) w)
  generalize finalJ (changeJ j to) = G at *
  generalize finalJ j = K at *
  generalize changeJ j to = R at *
  generalize changeE j to = E at *
  generalize mayJ j = mj at *
  unfold jtV cfV at *
  obtain ⟨⟨av, aw, al, ae, ak⟩, ⟨bv, bw, bl, be, bk⟩, t⟩ := j
  obtain ⟨cv, cw, cl, ce, ck⟩ := to
  obtain ⟨⟨rv, rw_, rl, re, rk⟩, ⟨sv, sw, sl, se, sk⟩, rt⟩ := R
  obtain ⟨⟨gv, gw, gl, ge, gk⟩, ⟨hv, hw, hl, he, hk⟩, gt⟩ := G
  obtain ⟨⟨kv, kw, kl, ke, kk⟩, ⟨lv, lw, ll, le, lk⟩, kt⟩ := K
  dsimp only at *
  clear h ht
  have k0 : Blk 27 ((w.alloc (.cells #[.int .u16 (av : Int), .int .u16 (aw : Int), .int .u16 (al : Int), .int .i64 ae, .int .i64 ak, .int .u16 (bv : Int), .int .u16 (bw : Int), .int .u16 (bl : Int), .int .i64 be, .int .i64 bk, .bool t] 27)).alloc (.cells #[.int .u16 (cv : Int), .int .u16 (cw : Int), .int .u16 (cl : Int), .int .i64 ce, .int .i64 ck] 25)) w.heap.size [.int .u16 (av : Int), .int .u16 (aw : Int), .int .u16 (al : Int), .int .i64 ae, .int .i64 ak, .int .u16 (bv : Int), .int .u16 (bw : Int), .int .u16 (bl : Int), .int .i64 be, .int .i64 bk, .bool t] := Blk.alloc (heap_alloc_new w _) _
  have k1 : Blk 25 ((w.alloc (.cells #[.int .u16 (av : Int), .int .u16 (aw : Int), .int .u16 (al : Int), .int .i64 ae, .int .i64 ak, .int .u16 (bv : Int), .int .u16 (bw : Int), .int .u16 (bl : Int), .int .i64 be, .int .i64 bk, .bool t] 27)).alloc (.cells #[.int .u16 (cv : Int), .int .u16 (cw : Int), .int .u16 (cl : Int), .int .i64 ce, .int .i64 ck] 25)) (w.heap.size + 1) [.int .u16 (cv : Int), .int .u16 (cw : Int), .int .u16 (cl : Int), .int .i64 ce, .int .i64 ck] := by have := heap_alloc_new (w.alloc (.cells #[.int .u16 (av : Int), .int .u16 (aw : Int), .int .u16 (al : Int), .int .i64 ae, .int .i64 ak, .int .u16 (bv : Int), .int .u16 (bw : Int), .int .u16 (bl : Int), .int .i64 be, .int .i64 bk, .bool t] 27)) (.cells #[.int .u16 (cv : Int), .int .u16 (cw : Int), .int .u16 (cl : Int), .int .i64 ce, .int .i64 ck] 25); rwa [show (w.alloc (.cells #[.int .u16 (av : Int), .int .u16 (aw : Int), .int .u16 (al : Int), .int .i64 ae, .int .i64 ak, .int .u16 (bv : Int), .int .u16 (bw : Int), .int .u16 (bl : Int), .int .i64 be, .int .i64 bk, .bool t] 27)).heap.size = w.heap.size + 1 by simp] at this
  have HB := Lib.hid (((Below.refl w.heap.size w).alloc (Nat.le_refl _) (.cells #[.int .u16 (av : Int), .int .u16 (aw : Int), .int .u16 (al : Int), .int .i64 ae, .int .i64 ak, .int .u16 (bv : Int), .int .u16 (bw : Int), .int .u16 (bl : Int), .int .i64 be, .int .i64 bk, .bool t] 27)).alloc (by simp) (.cells #[.int .u16 (cv : Int), .int .u16 (cw : Int), .int .u16 (cl : Int), .int .i64 ce, .int .i64 ck] 25))
  have HS : Hid (∀ wq, Below ((w.alloc (.cells #[.int .u16 (av : Int), .int .u16 (aw : Int), .int .u16 (al : Int), .int .i64 ae, .int .i64 ak, .int .u16 (bv : Int), .int .u16 (bw : Int), .int .u16 (bl : Int), .int .i64 be, .int .i64 bk, .bool t] 27)).alloc (.cells #[.int .u16 (cv : Int), .int .u16 (cw : Int), .int .u16 (cl : Int), .int .i64 ce, .int .i64 ck] 25)).heap.size ((w.alloc (.cells #[.int .u16 (av : Int), .int .u16 (aw : Int), .int .u16 (al : Int), .int .i64 ae, .int .i64 ak, .int .u16 (bv : Int), .int .u16 (bw : Int), .int .u16 (bl : Int), .int .i64 be, .int .i64 bk, .bool t] 27)).alloc (.cells #[.int .u16 (cv : Int), .int .u16 (cw : Int), .int .u16 (cl : Int), .int .i64 ce, .int .i64 ck] 25)) wq → (wq.cell? ⟨w.heap.size, 0, none⟩ = some (.int .u16 (av : Int)) ∧ wq.cell? ⟨w.heap.size, 1, none⟩ = some (.int .u16 (aw : Int)) ∧ wq.cell? ⟨w.heap.size, 2, none⟩ = some (.int .u16 (al : Int)) ∧ wq.cell? ⟨w.heap.size, 3, none⟩ = some (.int .i64 ae) ∧ wq.cell? ⟨w.heap.size, 4, none⟩ = some (.int .i64 ak) ∧ wq.cell? ⟨w.heap.size, 5, none⟩ = some (.int .u16 (bv : Int)) ∧ wq.cell? ⟨w.heap.size, 6, none⟩ = some (.int .u16 (bw : Int)) ∧ wq.cell? ⟨w.heap.size, 7, none⟩ = some (.int .u16 (bl : Int)) ∧ wq.cell? ⟨w.heap.size, 8, none⟩ = some (.int .i64 be) ∧ wq.cell? ⟨w.heap.size, 9, none⟩ = some (.int .i64 bk) ∧ wq.cell? ⟨w.heap.size, 10, none⟩ = some (.bool t)) ∧ (wq.cell? ⟨w.heap.size + 1, 0, none⟩ = some (.int .u16 (cv : Int)) ∧ wq.cell? ⟨w.heap.size + 1, 1, none⟩ = some (.int .u16 (cw : Int)) ∧ wq.cell? ⟨w.heap.size + 1, 2, none⟩ = some (.int .u16 (cl : Int)) ∧ wq.cell? ⟨w.heap.size + 1, 3, none⟩ = some (.int .i64 ce) ∧ wq.cell? ⟨w.heap.size + 1, 4, none⟩ = some (.int .i64 ck))) := fun wq hq => ⟨blk11 (k0.below hq k0.lt), blk5 (k1.below hq k1.lt)⟩
  have q0 := Below.refl ((w.alloc (.cells #[.int .u16 (av : Int), .int .u16 (aw : Int), .int .u16 (al : Int), .int .i64 ae, .int .i64 ak, .int .u16 (bv : Int), .int .u16 (bw : Int), .int .u16 (bl : Int), .int .i64 be, .int .i64 bk, .bool t] 27)).alloc (.cells #[.int .u16 (cv : Int), .int .u16 (cw : Int), .int .u16 (cl : Int), .int .i64 ce, .int .i64 ck] 25)).heap.size ((w.alloc (.cells #[.int .u16 (av : Int), .int .u16 (aw : Int), .int .u16 (al : Int), .int .i64 ae, .int .i64 ak, .int .u16 (bv : Int), .int .u16 (bw : Int), .int .u16 (bl : Int), .int .i64 be, .int .i64 bk, .bool t] 27)).alloc (.cells #[.int .u16 (cv : Int), .int .u16 (cw : Int), .int .u16 (cl : Int), .int .i64 ce, .int .i64 ck] 25))
  have HK := Lib.hid k0
  clear k0 k1
  go_enter Try.func4, Try.ntmps4
  go_upto_region 1 with (fail)
  generalize ((w.alloc (.cells #[.int .u16 (av : Int), .int .u16 (aw : Int), .int .u16 (al : Int), .int .i64 ae, .int .i64 ak, .int .u16 (bv : Int), .int .u16 (bw : Int), .int .u16 (bl : Int), .int .i64 be, .int .i64 bk, .bool t] 27)).alloc (.cells #[.int .u16 (cv : Int), .int .u16 (cw : Int), .int .u16 (cl : Int), .int .i64 ce, .int .i64 ck] 25)) = w1 at *
  have r0 := HS.out _ q0
  go_wp2_with fail
  refine (CB.out _).mono ?_
  rintro e y1 ⟨rfl, hY1⟩
  have q1 := q0.trans (hY1.mono q0.size)
  have r1 := HS.out _ q1
  cases mj
  · go_wp2_with fail
    refine (RJ.out _).mono ?_
    rintro e y2 ⟨rfl, hY2⟩
    have q2 := q1.trans (hY2.mono q1.size)
    have r2 := HS.out _ q2
    go_wp2_with fail
    go_ret
    exact ⟨rfl, HB.out.trans (q2.mono HB.out.size)⟩
  · have S1 := Lib.hid (R1.out rfl)
    clear R1
    go_wp2_with fail
    refine (RJ.out _).mono ?_
    rintro e y2 ⟨rfl, hY2⟩
    have q2 := q1.trans (hY2.mono q1.size)
    have r2 := HS.out _ q2
    go_wp2_with fail
    refine (L1.out _).mono ?_
    rintro e y3 ⟨rfl, hY3⟩
    have q3 := q2.trans (hY3.mono q2.size)
    have r3 := HS.out _ q3
    have kx : Blk 27 (y3.alloc (.cells #[.int .u16 (rv : Int), .int .u16 (rw_ : Int), .int .u16 (rl : Int), .int .i64 re, .int .i64 rk, .int .u16 (sv : Int), .int .u16 (sw : Int), .int .u16 (sl : Int), .int .i64 se, .int .i64 sk, .bool rt] 27)) y3.heap.size [.int .u16 (rv : Int), .int .u16 (rw_ : Int), .int .u16 (rl : Int), .int .i64 re, .int .i64 rk, .int .u16 (sv : Int), .int .u16 (sw : Int), .int .u16 (sl : Int), .int .i64 se, .int .i64 sk, .bool rt] := heap_alloc_new y3 _
    have hB3 := q3.alloc q3.size (.cells #[.int .u16 (rv : Int), .int .u16 (rw_ : Int), .int .u16 (rl : Int), .int .i64 re, .int .i64 rk, .int .u16 (sv : Int), .int .u16 (sw : Int), .int .u16 (sl : Int), .int .i64 se, .int .i64 sk, .bool rt] 27)
    have r3a := HS.out _ hB3
    go_upto_region 6 with (fail)
    generalize (y3.alloc (.cells #[.int .u16 (rv : Int), .int .u16 (rw_ : Int), .int .u16 (rl : Int), .int .i64 re, .int .i64 rk, .int .u16 (sv : Int), .int .u16 (sw : Int), .int .u16 (sl : Int), .int .i64 se, .int .i64 sk, .bool rt] 27)) = w5 at *
    go_wp2_with fail
    refine (S1.out _).mono ?_
    rintro e z1 ⟨rfl, hZ1⟩
    have hB4 := hB3.trans (hZ1.mono hB3.size)
    have kx2 := kx.below hZ1 kx.lt
    have ky : Blk 27 (z1.alloc (.cells #[.int .u16 (rv : Int), .int .u16 (rw_ : Int), .int .u16 (rl : Int), .int .i64 re, .int .i64 rk, .int .u16 (sv : Int), .int .u16 (sw : Int), .int .u16 (sl : Int), .int .i64 se, .int .i64 sk, .bool rt] 27)) z1.heap.size [.int .u16 (rv : Int), .int .u16 (rw_ : Int), .int .u16 (rl : Int), .int .i64 re, .int .i64 rk, .int .u16 (sv : Int), .int .u16 (sw : Int), .int .u16 (sl : Int), .int .i64 se, .int .i64 sk, .bool rt] := heap_alloc_new z1 _
    have hB5 := hB4.alloc hB4.size (.cells #[.int .u16 (rv : Int), .int .u16 (rw_ : Int), .int .u16 (rl : Int), .int .i64 re, .int .i64 rk, .int .u16 (sv : Int), .int .u16 (sw : Int), .int .u16 (sl : Int), .int .i64 se, .int .i64 sk, .bool rt] 27)
    have kx3 := kx2.alloc (.cells #[.int .u16 (rv : Int), .int .u16 (rw_ : Int), .int .u16 (rl : Int), .int .i64 re, .int .i64 rk, .int .u16 (sv : Int), .int .u16 (sw : Int), .int .u16 (sl : Int), .int .i64 se, .int .i64 sk, .bool rt] 27)
    have kj := HK.out.below hB5 HK.out.lt
    go_upto_region 7 with (fail)
    generalize (z1.alloc (.cells #[.int .u16 (rv : Int), .int .u16 (rw_ : Int), .int .u16 (rl : Int), .int .i64 re, .int .i64 rk, .int .u16 (sv : Int), .int .u16 (sw : Int), .int .u16 (sl : Int), .int .i64 se, .int .i64 sk, .bool rt] 27)) = w6 at *
    have HT : Hid (∀ wq, Below w6.heap.size w6 wq → (wq.cell? ⟨w.heap.size, 0, none⟩ = some (.int .u16 (av : Int)) ∧ wq.cell? ⟨w.heap.size, 1, none⟩ = some (.int .u16 (aw : Int)) ∧ wq.cell? ⟨w.heap.size, 2, none⟩ = some (.int .u16 (al : Int)) ∧ wq.cell? ⟨w.heap.size, 3, none⟩ = some (.int .i64 ae) ∧ wq.cell? ⟨w.heap.size, 4, none⟩ = some (.int .i64 ak) ∧ wq.cell? ⟨w.heap.size, 5, none⟩ = some (.int .u16 (bv : Int)) ∧ wq.cell? ⟨w.heap.size, 6, none⟩ = some (.int .u16 (bw : Int)) ∧ wq.cell? ⟨w.heap.size, 7, none⟩ = some (.int .u16 (bl : Int)) ∧ wq.cell? ⟨w.heap.size, 8, none⟩ = some (.int .i64 be) ∧ wq.cell? ⟨w.heap.size, 9, none⟩ = some (.int .i64 bk) ∧ wq.cell? ⟨w.heap.size, 10, none⟩ = some (.bool t)) ∧ (wq.cell? ⟨y3.heap.size, 0, none⟩ = some (.int .u16 (rv : Int)) ∧ wq.cell? ⟨y3.heap.size, 1, none⟩ = some (.int .u16 (rw_ : Int)) ∧ wq.cell? ⟨y3.heap.size, 2, none⟩ = some (.int .u16 (rl : Int)) ∧ wq.cell? ⟨y3.heap.size, 3, none⟩ = some (.int .i64 re) ∧ wq.cell? ⟨y3.heap.size, 4, none⟩ = some (.int .i64 rk) ∧ wq.cell? ⟨y3.heap.size, 5, none⟩ = some (.int .u16 (sv : Int)) ∧ wq.cell? ⟨y3.heap.size, 6, none⟩ = some (.int .u16 (sw : Int)) ∧ wq.cell? ⟨y3.heap.size, 7, none⟩ = some (.int .u16 (sl : Int)) ∧ wq.cell? ⟨y3.heap.size, 8, none⟩ = some (.int .i64 se) ∧ wq.cell? ⟨y3.heap.size, 9, none⟩ = some (.int .i64 sk) ∧ wq.cell? ⟨y3.heap.size, 10, none⟩ = some (.bool rt)) ∧ (wq.cell? ⟨z1.heap.size, 0, none⟩ = some (.int .u16 (rv : Int)) ∧ wq.cell? ⟨z1.heap.size, 1, none⟩ = some (.int .u16 (rw_ : Int)) ∧ wq.cell? ⟨z1.heap.size, 2, none⟩ = some (.int .u16 (rl : Int)) ∧ wq.cell? ⟨z1.heap.size, 3, none⟩ = some (.int .i64 re) ∧ wq.cell? ⟨z1.heap.size, 4, none⟩ = some (.int .i64 rk) ∧ wq.cell? ⟨z1.heap.size, 5, none⟩ = some (.int .u16 (sv : Int)) ∧ wq.cell? ⟨z1.heap.size, 6, none⟩ = some (.int .u16 (sw : Int)) ∧ wq.cell? ⟨z1.heap.size, 7, none⟩ = some (.int .u16 (sl : Int)) ∧ wq.cell? ⟨z1.heap.size, 8, none⟩ = some (.int .i64 se) ∧ wq.cell? ⟨z1.heap.size, 9, none⟩ = some (.int .i64 sk) ∧ wq.cell? ⟨z1.heap.size, 10, none⟩ = some (.bool rt))) := fun wq hq => ⟨blk11 (kj.below hq kj.lt), blk11 (kx3.below hq kx3.lt), blk11 (ky.below hq ky.lt)⟩
    have HB6 := Lib.hid (HB.out.trans (hB5.mono HB.out.size))
    clear kx kx2 kx3 ky kj hB3 hB4 hB5 HS HK r3a r0 r1 r2 r3
    have HS := HT
    clear HT
    have p0 := Below.refl w6.heap.size w6
    have q21 := p0.drew
    refine wp_region_held_drew (S := fun wq => (wq.cell? ⟨w.heap.size, 0, none⟩ = some (.int .u16 (av : Int)) ∧ wq.cell? ⟨w.heap.size, 1, none⟩ = some (.int .u16 (aw : Int)) ∧ wq.cell? ⟨w.heap.size, 2, none⟩ = some (.int .u16 (al : Int)) ∧ wq.cell? ⟨w.heap.size, 3, none⟩ = some (.int .i64 ae) ∧ wq.cell? ⟨w.heap.size, 4, none⟩ = some (.int .i64 ak) ∧ wq.cell? ⟨w.heap.size, 5, none⟩ = some (.int .u16 (bv : Int)) ∧ wq.cell? ⟨w.heap.size, 6, none⟩ = some (.int .u16 (bw : Int)) ∧ wq.cell? ⟨w.heap.size, 7, none⟩ = some (.int .u16 (bl : Int)) ∧ wq.cell? ⟨w.heap.size, 8, none⟩ = some (.int .i64 be) ∧ wq.cell? ⟨w.heap.size, 9, none⟩ = some (.int .i64 bk) ∧ wq.cell? ⟨w.heap.size, 10, none⟩ = some (.bool t)) ∧ (wq.cell? ⟨y3.heap.size, 0, none⟩ = some (.int .u16 (rv : Int)) ∧ wq.cell? ⟨y3.heap.size, 1, none⟩ = some (.int .u16 (rw_ : Int)) ∧ wq.cell? ⟨y3.heap.size, 2, none⟩ = some (.int .u16 (rl : Int)) ∧ wq.cell? ⟨y3.heap.size, 3, none⟩ = some (.int .i64 re) ∧ wq.cell? ⟨y3.heap.size, 4, none⟩ = some (.int .i64 rk) ∧ wq.cell? ⟨y3.heap.size, 5, none⟩ = some (.int .u16 (sv : Int)) ∧ wq.cell? ⟨y3.heap.size, 6, none⟩ = some (.int .u16 (sw : Int)) ∧ wq.cell? ⟨y3.heap.size, 7, none⟩ = some (.int .u16 (sl : Int)) ∧ wq.cell? ⟨y3.heap.size, 8, none⟩ = some (.int .i64 se) ∧ wq.cell? ⟨y3.heap.size, 9, none⟩ = some (.int .i64 sk) ∧ wq.cell? ⟨y3.heap.size, 10, none⟩ = some (.bool rt)) ∧ (wq.cell? ⟨z1.heap.size, 0, none⟩ = some (.int .u16 (rv : Int)) ∧ wq.cell? ⟨z1.heap.size, 1, none⟩ = some (.int .u16 (rw_ : Int)) ∧ wq.cell? ⟨z1.heap.size, 2, none⟩ = some (.int .u16 (rl : Int)) ∧ wq.cell? ⟨z1.heap.size, 3, none⟩ = some (.int .i64 re) ∧ wq.cell? ⟨z1.heap.size, 4, none⟩ = some (.int .i64 rk) ∧ wq.cell? ⟨z1.heap.size, 5, none⟩ = some (.int .u16 (sv : Int)) ∧ wq.cell? ⟨z1.heap.size, 6, none⟩ = some (.int .u16 (sw : Int)) ∧ wq.cell? ⟨z1.heap.size, 7, none⟩ = some (.int .u16 (sl : Int)) ∧ wq.cell? ⟨z1.heap.size, 8, none⟩ = some (.int .i64 se) ∧ wq.cell? ⟨z1.heap.size, 9, none⟩ = some (.int .i64 sk) ∧ wq.cell? ⟨z1.heap.size, 10, none⟩ = some (.bool rt))) (by kernel_rfl) ?s_chg7 (fun hHeld => ?_)
    case s_chg7 => exact HS.out _ q21
    refine tk 0 { dst := some 26, op := .load 27 (.tmp 5), type := 27, pos := "law.go:42", after := #[], guard := none } _ ?_
    try simp only [Act.put, List.setIfInBounds_toArray, List.set_cons_zero, List.set_cons_succ]
    refine tk 1 { dst := some 27, op := .load 27 (.tmp 7), type := 27, pos := "law.go:42", after := #[], guard := none } _ ?_
    try simp only [Act.put, List.setIfInBounds_toArray, List.set_cons_zero, List.set_cons_succ]
    refine tk 2 { dst := some 28, op := .binOp .eql 27 (.tmp 26) (.tmp 27) 27, type := 4, pos := "law.go:42", after := #[{ on := 0, ground := .data }, { on := 1, ground := .data }], guard := none } _ ?_
    try simp only [Act.put, List.setIfInBounds_toArray, List.set_cons_zero, List.set_cons_succ]
    refine tk 3 { dst := some 29, op := .move (.tmp 28), type := 4, pos := "law.go:42", after := #[{ on := 2, ground := .data }], guard := none } _ ?_
    try simp only [Act.put, List.setIfInBounds_toArray, List.set_cons_zero, List.set_cons_succ]
    refine tk 4 { dst := some 30, op := .move (.tmp 6), type := 35, pos := "law.go:42", after := #[{ on := 3, ground := .guard }], guard := some (3, true) } _ ?_
    try simp only [Act.put, List.setIfInBounds_toArray, List.set_cons_zero, List.set_cons_succ]
    refine tk 5 { dst := some 31, op := .move (.tmp 8), type := 35, pos := "law.go:42", after := #[{ on := 3, ground := .guard }], guard := some (3, true) } _ ?_
    try simp only [Act.put, List.setIfInBounds_toArray, List.set_cons_zero, List.set_cons_succ]
    refine tk 6 { dst := some 32, op := .binOp .eql 35 (.tmp 30) (.tmp 31) 35, type := 4, pos := "law.go:42", after := #[{ on := 4, ground := .data }, { on := 5, ground := .data }, { on := 3, ground := .guard }], guard := some (3, true) } _ ?_
    try simp only [Act.put, List.setIfInBounds_toArray, List.set_cons_zero, List.set_cons_succ]
    refine tk 7 { dst := some 33, op := .pick (.tmp 29) (.tmp 32) (.const (.bool false)), type := 4, pos := "law.go:42", after := #[{ on := 3, ground := .data }, { on := 6, ground := .data }], guard := none } _ ?_
    try simp only [Act.put, List.setIfInBounds_toArray, List.set_cons_zero, List.set_cons_succ]
    refine tk 8 { dst := some 34, op := .move (.tmp 33), type := 4, pos := "law.go:42", after := #[{ on := 7, ground := .data }, { on := 3, ground := .chain }], guard := none } _ ?_
    try simp only [Act.put, List.setIfInBounds_toArray, List.set_cons_zero, List.set_cons_succ]
    refine tk 9 { dst := some 35, op := .load 27 (.tmp 2), type := 27, pos := "law.go:42", after := #[{ on := 8, ground := .guard }], guard := some (8, true) } _ ?_
    try simp only [Act.put, List.setIfInBounds_toArray, List.set_cons_zero, List.set_cons_succ]
    refine tk 11 { dst := some 37, op := .load 27 (.tmp 2), type := 27, pos := "law.go:42", after := #[{ on := 8, ground := .guard }], guard := some (8, true) } _ ?_
    try simp only [Act.put, List.setIfInBounds_toArray, List.set_cons_zero, List.set_cons_succ]
    refine wpAnyH_ready (rs := [10]) (by kernel_rfl) (by simp) ?_
    refine AllReadyH.cons (o := { dst := some 36, op := .call { callee := .value (.func 29), args := #[.tmp 35], argTypes := #[27] }, type := 27, pos := "law.go:42", after := #[{ on := 9, ground := .data }, { on := 8, ground := .chain }, { on := 8, ground := .guard }], guard := some (8, true) }) rfl (fun KQ hKQ => ?_) AllReadyH.nil
    go_simp
    refine (LF.out _).mono ?_
    rintro e y22 ⟨rfl, hY22⟩
    have q22 := q21.trans (hY22.mono q21.size)
    have r22 := HS.out _ q22
    go_wp2_with fail
    refine hKQ.out _ _ ?s_10 (fun hHeld10 => ?_)
    case s_10 => exact r22
    clear hKQ KQ
    try simp only [Act.put, List.setIfInBounds_toArray, List.set_cons_zero, List.set_cons_succ]
    refine wpAnyH_ready (rs := [12]) (by kernel_rfl) (by simp) ?_
    refine AllReadyH.cons (o := { dst := some 38, op := .call { callee := .value (.func 30), args := #[.tmp 37], argTypes := #[27] }, type := 27, pos := "law.go:42", after := #[{ on := 11, ground := .data }, { on := 10, ground := .chain }, { on := 8, ground := .guard }], guard := some (8, true) }) rfl (fun KQ hKQ => ?_) AllReadyH.nil
    go_simp
    refine (RF.out _).mono ?_
    rintro e y23 ⟨rfl, hY23⟩
    have q23 := q22.trans (hY23.mono q22.size)
    have r23 := HS.out _ q23
    go_wp2_with fail
    refine hKQ.out _ _ ?s_12 (fun hHeld12 => ?_)
    case s_12 => exact r23
    clear hKQ KQ
    try simp only [Act.put, List.setIfInBounds_toArray, List.set_cons_zero, List.set_cons_succ]
    refine tk 13 { dst := some 39, op := .binOp .eql 27 (.tmp 36) (.tmp 38) 27, type := 4, pos := "law.go:42", after := #[{ on := 10, ground := .data }, { on := 12, ground := .data }, { on := 8, ground := .guard }], guard := some (8, true) } _ ?_
    try simp only [Act.put, List.setIfInBounds_toArray, List.set_cons_zero, List.set_cons_succ]
    refine tk 14 { dst := some 40, op := .pick (.tmp 34) (.tmp 39) (.const (.bool false)), type := 4, pos := "law.go:42", after := #[{ on := 8, ground := .data }, { on := 13, ground := .data }], guard := none } _ ?_
    try simp only [Act.put, List.setIfInBounds_toArray, List.set_cons_zero, List.set_cons_succ]
    refine tk 15 { dst := some 41, op := .move (.tmp 40), type := 4, pos := "law.go:42", after := #[{ on := 14, ground := .data }, { on := 12, ground := .chain }], guard := none } _ ?_
    try simp only [Act.put, List.setIfInBounds_toArray, List.set_cons_zero, List.set_cons_succ]
    refine tk 16 { dst := some 42, op := .load 27 (.tmp 5), type := 27, pos := "law.go:42", after := #[{ on := 15, ground := .guard }], guard := some (15, true) } _ ?_
    try simp only [Act.put, List.setIfInBounds_toArray, List.set_cons_zero, List.set_cons_succ]
    refine tk 18 { dst := some 44, op := .load 27 (.tmp 7), type := 27, pos := "law.go:42", after := #[{ on := 15, ground := .guard }], guard := some (15, true) } _ ?_
    try simp only [Act.put, List.setIfInBounds_toArray, List.set_cons_zero, List.set_cons_succ]
    refine wpAnyH_ready (rs := [17]) (by kernel_rfl) (by simp) ?_
    refine AllReadyH.cons (o := { dst := some 43, op := .call { callee := .value (.func 29), args := #[.tmp 42], argTypes := #[27] }, type := 27, pos := "law.go:42", after := #[{ on := 16, ground := .data }, { on := 15, ground := .chain }, { on := 15, ground := .guard }], guard := some (15, true) }) rfl (fun KQ hKQ => ?_) AllReadyH.nil
    go_simp
    refine (LG.out _).mono ?_
    rintro e y24 ⟨rfl, hY24⟩
    have q24 := q23.trans (hY24.mono q23.size)
    have r24 := HS.out _ q24
    go_wp2_with fail
    refine hKQ.out _ _ ?s_17 (fun hHeld17 => ?_)
    case s_17 => exact r24
    clear hKQ KQ
    try simp only [Act.put, List.setIfInBounds_toArray, List.set_cons_zero, List.set_cons_succ]
    refine wpAnyH_ready (rs := [19]) (by kernel_rfl) (by simp) ?_
    refine AllReadyH.cons (o := { dst := some 45, op := .call { callee := .value (.func 30), args := #[.tmp 44], argTypes := #[27] }, type := 27, pos := "law.go:42", after := #[{ on := 18, ground := .data }, { on := 17, ground := .chain }, { on := 15, ground := .guard }], guard := some (15, true) }) rfl (fun KQ hKQ => ?_) AllReadyH.nil
    go_simp
    refine (RG.out _).mono ?_
    rintro e y25 ⟨rfl, hY25⟩
    have q25 := q24.trans (hY25.mono q24.size)
    have r25 := HS.out _ q25
    go_wp2_with fail
    refine hKQ.out _ _ ?s_19 (fun hHeld19 => ?_)
    case s_19 => exact r25
    clear hKQ KQ
    try simp only [Act.put, List.setIfInBounds_toArray, List.set_cons_zero, List.set_cons_succ]
    refine tk 20 { dst := some 46, op := .binOp .eql 27 (.tmp 43) (.tmp 45) 27, type := 4, pos := "law.go:42", after := #[{ on := 17, ground := .data }, { on := 19, ground := .data }, { on := 15, ground := .guard }], guard := some (15, true) } _ ?_
    try simp only [Act.put, List.setIfInBounds_toArray, List.set_cons_zero, List.set_cons_succ]
    refine tk 21 { dst := some 47, op := .pick (.tmp 41) (.tmp 46) (.const (.bool false)), type := 4, pos := "law.go:42", after := #[{ on := 15, ground := .data }, { on := 20, ground := .data }], guard := none } _ ?_
    try simp only [Act.put, List.setIfInBounds_toArray, List.set_cons_zero, List.set_cons_succ]
    refine tk 22 { dst := some 4, op := .assign (.tmp 47), type := 4, pos := "law.go:42", after := #[{ on := 21, ground := .data }, { on := 19, ground := .chain }, { on := 0, ground := .phase }, { on := 1, ground := .phase }, { on := 2, ground := .phase }, { on := 3, ground := .phase }, { on := 4, ground := .phase }, { on := 5, ground := .phase }, { on := 6, ground := .phase }, { on := 7, ground := .phase }, { on := 8, ground := .phase }, { on := 9, ground := .phase }, { on := 10, ground := .phase }, { on := 11, ground := .phase }, { on := 12, ground := .phase }, { on := 13, ground := .phase }, { on := 14, ground := .phase }, { on := 15, ground := .phase }, { on := 16, ground := .phase }, { on := 17, ground := .phase }, { on := 18, ground := .phase }, { on := 19, ground := .phase }, { on := 20, ground := .phase }, { on := 21, ground := .phase }], guard := none } _ ?_
    try simp only [Act.put, List.setIfInBounds_toArray, List.set_cons_zero, List.set_cons_succ]
    refine wpAnyH_done (by kernel_rfl) ?_ _
    go_wp2_with fail
    go_ret
    exact ⟨rfl, HB6.out.trans (q25.mono HB6.out.size)⟩
end Go.Proofs.Ytdpfpcdoocampaa.law10
