/- ZoneAll answers true: where replicas lie, and which zones are refused, and why. Condition: the library's table reads as its text lays it. -/
import Derived.Test.YtfcljdpjjabhjaaDoorBegun11
import Derived.Test.YtfcljdpjjabhjaaDoorLight11
import Derived.Test.YtfcljdpjjabhjaaDoorRef11f
namespace Go.Proofs.YtfcljdpjjabhjaaDoor.law11
open Go Go.RowKit Go.Proofs.YtfcljdpjjabhjaaDoor.kit Go.Proofs.YtfcljdpjjabhjaaDoor.nums Go.Proofs.YtfcljdpjjabhjaaDoor.se Go.Proofs.YtfcljdpjjabhjaaDoor.cf Go.Proofs.YtfcljdpjjabhjaaDoor.zn Go.Proofs.YtfcljdpjjabhjaaDoor.ref9 Go.Proofs.YtfcljdpjjabhjaaDoor.zoni
set_option linter.unusedVariables false

set_option maxHeartbeats 4000000 in
theorem all_walk (A : Option Addr) (n c : Nat) (rs : List Int) (a : ZnA) (z : ZnL) (A2 : Option Addr) (m c2 : Nat) (ld : List Int) (w : World)
    (hT : TabW w) (hR : RdV w w.heap.size A n (i64s rs)) (hZ : RdZ0 w w.heap.size a z) (hL : RdV w w.heap.size A2 m (i64s ld)) :
    Calls Tryd.prog 3 #[.slice A n c, znV a z, .slice A2 m c2] w fun e w' => e = .returned (.bool true) ∧ Below w.heap.size w w' := by
  have CB := Lib.hid (fun y (hb : Below w.heap.size w y) => begun_any y (hT.on hb))
  have CL := Lib.hid (fun y => light_any A n c a z A2 m c2 y)
  have C1 := Lib.hid (fun (hlb : lightB n a m = true) y (hb : Below w.heap.size w y) => zoni.allot_any A n c rs a z A2 m c2 ld y (hT.on hb) (hR.on hb hb.size) (by have := light_lens hlb; omega) ((hZ.on hb hb.size).full (light_lens hlb).2.1 (light_lens hlb).2.2.1 (light_lens hlb).2.2.2.1) (hL.on hb hb.size) (by have := light_lens hlb; omega))
  have C2 := Lib.hid (fun (hlb : lightB n a m = true) y (hb : Below w.heap.size w y) => ref11.allot_any A n c rs a z A2 m c2 ld y (hR.on hb hb.size) (by have := light_lens hlb; omega) ((hZ.on hb hb.size).full (light_lens hlb).2.1 (light_lens hlb).2.2.1 (light_lens hlb).2.2.2.1) (hL.on hb hb.size) (by have := light_lens hlb; omega))
  have C3 := Lib.hid (fun (hlb : lightB n a m = true) y (hb : Below w.heap.size w y) => zoni.check_any A n c rs a z A2 m c2 ld y (hT.on hb) (hR.on hb hb.size) (by have := light_lens hlb; omega) ((hZ.on hb hb.size).full (light_lens hlb).2.1 (light_lens hlb).2.2.1 (light_lens hlb).2.2.2.1) (hL.on hb hb.size) (by have := light_lens hlb; omega))
  have C4 := Lib.hid (fun (hlb : lightB n a m = true) y (hb : Below w.heap.size w y) => ref11.check_any A n c rs a z A2 m c2 ld y (hR.on hb hb.size) (by have := light_lens hlb; omega) ((hZ.on hb hb.size).full (light_lens hlb).2.1 (light_lens hlb).2.2.1 (light_lens hlb).2.2.2.1) (hL.on hb hb.size) (by have := light_lens hlb; omega))
  have C5 := Lib.hid (fun (hlb : lightB n a m = true) y (hb : Below w.heap.size w y) => zoni.mayZone_any a z y y.heap.size ((hZ.on hb hb.size).full (light_lens hlb).2.1 (light_lens hlb).2.2.1 (light_lens hlb).2.2.2.1) (Nat.le_refl _))
  have C6 := Lib.hid (fun (hlb : lightB n a m = true) y (hb : Below w.heap.size w y) => ref11.mayZone_any a z y y.heap.size ((hZ.on hb hb.size).full (light_lens hlb).2.1 (light_lens hlb).2.2.1 (light_lens hlb).2.2.2.1) (Nat.le_refl _))
  have HLB := Lib.hid (fun (hlb : lightB n a m = true) => light_lens hlb)
  obtain ⟨lb, hlb⟩ : ∃ lb, lightB n a m = lb := ⟨_, rfl⟩
  rw [hlb] at CL
  clear HLB hT hR hZ hL
  generalize allotF rs z ld = ra at *
  generalize checkF rs z ld = rc at *
  generalize mayZ z = mz at *
  obtain ⟨⟨av, aw, al, ae, ak⟩, e1⟩ := ra
  obtain ⟨⟨cv, cw, cl, ce, ck⟩, e2⟩ := rc
  dsimp only at *
  unfold cfV at *
  unfold znV at *
  obtain ⟨z1, n1, c1, z2, n2, c2_, z3, n3, c3⟩ := a
  obtain ⟨zv, zw, zl, ze, zk, zs⟩ := z
  dsimp only at *
  have kz : Blk 24 (w.alloc (.cells #[.slice z1 n1 c1, .slice z2 n2 c2_, .slice z3 n3 c3, .int .i64 ze, .int .i64 zk, .int .i64 zs] 24)) w.heap.size [.slice z1 n1 c1, .slice z2 n2 c2_, .slice z3 n3 c3, .int .i64 ze, .int .i64 zk, .int .i64 zs] := heap_alloc_new w _
  have hB0 := (Below.refl w.heap.size w).alloc (Nat.le_refl _) (.cells #[.slice z1 n1 c1, .slice z2 n2 c2_, .slice z3 n3 c3, .int .i64 ze, .int .i64 zk, .int .i64 zs] 24)
  go_enter Tryd.func3, Tryd.ntmps3
  go_upto_region 1 with (fail)
  generalize (w.alloc (.cells #[.slice z1 n1 c1, .slice z2 n2 c2_, .slice z3 n3 c3, .int .i64 ze, .int .i64 zk, .int .i64 zs] 24)) = w1 at *
  have K1 := Lib.hid kz
  have B1 := Lib.hid hB0
  clear kz hB0
  go_wp2_with fail
  refine (CB.out _ B1.out).mono ?_
  rintro e y1 ⟨rfl, hY1⟩
  have K2 := Lib.hid (K1.out.below hY1 K1.out.lt)
  have B2 := Lib.hid (B1.out.trans (hY1.mono B1.out.size))
  clear hY1 K1 B1 CB
  obtain ⟨x0, x1, x2, x3, x4, x5⟩ := blk6 K2.out
  go_wp2_with fail
  refine (CL.out _).mono ?_
  rintro e y2 ⟨rfl, hY2⟩
  have K3 := Lib.hid (K2.out.below hY2 K2.out.lt)
  have B3 := Lib.hid (B2.out.trans (hY2.mono B2.out.size))
  clear x0 x1 x2 x3 x4 x5 hY2 K2 B2 CL
  cases lb
  · go_wp2_with fail
    go_ret
    exact ⟨rfl, B3.out⟩
  have EA := fun w => eql_cf av aw al ae ak w
  have EC := fun w => eql_cf cv cw cl ce ck w
  have EAh := Lib.hid EA
  have ECh := Lib.hid EC
  clear EA EC
  obtain ⟨x0, x1, x2, x3, x4, x5⟩ := blk6 K3.out
  have cC := Lib.hid (C1.out hlb _ B3.out)
  clear C1
  go_wp2_with fail
  refine cC.out.mono ?_
  rintro e v0 ⟨rfl, hY⟩
  clear x0 x1 x2 x3 x4 x5 cC
  have k0_0 := (K3.out.below hY K3.out.lt).alloc (.cells #[.int .u16 (av : Int), .int .u16 (aw : Int), .int .u16 (al : Int), .int .i64 ae, .int .i64 ak] 30)
  have k0_1 : Blk 30 (v0.alloc (.cells #[.int .u16 (av : Int), .int .u16 (aw : Int), .int .u16 (al : Int), .int .i64 ae, .int .i64 ak] 30)) v0.heap.size [.int .u16 (av : Int), .int .u16 (aw : Int), .int .u16 (al : Int), .int .i64 ae, .int .i64 ak] := heap_alloc_new v0 _
  have b0 := (B3.out.trans (hY.mono B3.out.size)).alloc (B3.out.trans (hY.mono B3.out.size)).size (.cells #[.int .u16 (av : Int), .int .u16 (aw : Int), .int .u16 (al : Int), .int .i64 ae, .int .i64 ak] 30)
  clear hY K3 B3
  go_upto_region 6 with (fail)
  generalize (v0.alloc (.cells #[.int .u16 (av : Int), .int .u16 (aw : Int), .int .u16 (al : Int), .int .i64 ae, .int .i64 ak] 30)) = u0 at *
  generalize v0.heap.size = g0 at *
  have Hk0_0 := Lib.hid k0_0
  clear k0_0
  have Hk0_1 := Lib.hid k0_1
  clear k0_1
  have HB0 := Lib.hid b0
  clear b0
  obtain ⟨x0, x1, x2, x3, x4, x5⟩ := blk6 Hk0_0.out
  have cC := Lib.hid (C2.out hlb _ HB0.out)
  clear C2
  go_wp2_with fail
  refine cC.out.mono ?_
  rintro e v1 ⟨rfl, hY⟩
  clear x0 x1 x2 x3 x4 x5 cC
  have k1_0 := (Hk0_0.out.below hY Hk0_0.out.lt).alloc (.cells #[.int .u16 (av : Int), .int .u16 (aw : Int), .int .u16 (al : Int), .int .i64 ae, .int .i64 ak] 30)
  have k1_1 := (Hk0_1.out.below hY Hk0_1.out.lt).alloc (.cells #[.int .u16 (av : Int), .int .u16 (aw : Int), .int .u16 (al : Int), .int .i64 ae, .int .i64 ak] 30)
  have k1_2 : Blk 30 (v1.alloc (.cells #[.int .u16 (av : Int), .int .u16 (aw : Int), .int .u16 (al : Int), .int .i64 ae, .int .i64 ak] 30)) v1.heap.size [.int .u16 (av : Int), .int .u16 (aw : Int), .int .u16 (al : Int), .int .i64 ae, .int .i64 ak] := heap_alloc_new v1 _
  have b1 := (HB0.out.trans (hY.mono HB0.out.size)).alloc (HB0.out.trans (hY.mono HB0.out.size)).size (.cells #[.int .u16 (av : Int), .int .u16 (aw : Int), .int .u16 (al : Int), .int .i64 ae, .int .i64 ak] 30)
  clear hY Hk0_0 Hk0_1 HB0
  go_upto_region 7 with (fail)
  generalize (v1.alloc (.cells #[.int .u16 (av : Int), .int .u16 (aw : Int), .int .u16 (al : Int), .int .i64 ae, .int .i64 ak] 30)) = u1 at *
  generalize v1.heap.size = g1 at *
  have Hk1_0 := Lib.hid k1_0
  clear k1_0
  have Hk1_1 := Lib.hid k1_1
  clear k1_1
  have Hk1_2 := Lib.hid k1_2
  clear k1_2
  have HB1 := Lib.hid b1
  clear b1
  obtain ⟨x0, x1, x2, x3, x4, x5⟩ := blk6 Hk1_0.out
  have cC := Lib.hid (C3.out hlb _ HB1.out)
  clear C3
  go_wp2_with fail
  refine cC.out.mono ?_
  rintro e v2 ⟨rfl, hY⟩
  clear x0 x1 x2 x3 x4 x5 cC
  have k2_0 := (Hk1_0.out.below hY Hk1_0.out.lt).alloc (.cells #[.int .u16 (cv : Int), .int .u16 (cw : Int), .int .u16 (cl : Int), .int .i64 ce, .int .i64 ck] 30)
  have k2_1 := (Hk1_1.out.below hY Hk1_1.out.lt).alloc (.cells #[.int .u16 (cv : Int), .int .u16 (cw : Int), .int .u16 (cl : Int), .int .i64 ce, .int .i64 ck] 30)
  have k2_2 := (Hk1_2.out.below hY Hk1_2.out.lt).alloc (.cells #[.int .u16 (cv : Int), .int .u16 (cw : Int), .int .u16 (cl : Int), .int .i64 ce, .int .i64 ck] 30)
  have k2_3 : Blk 30 (v2.alloc (.cells #[.int .u16 (cv : Int), .int .u16 (cw : Int), .int .u16 (cl : Int), .int .i64 ce, .int .i64 ck] 30)) v2.heap.size [.int .u16 (cv : Int), .int .u16 (cw : Int), .int .u16 (cl : Int), .int .i64 ce, .int .i64 ck] := heap_alloc_new v2 _
  have b2 := (HB1.out.trans (hY.mono HB1.out.size)).alloc (HB1.out.trans (hY.mono HB1.out.size)).size (.cells #[.int .u16 (cv : Int), .int .u16 (cw : Int), .int .u16 (cl : Int), .int .i64 ce, .int .i64 ck] 30)
  clear hY Hk1_0 Hk1_1 Hk1_2 HB1
  go_upto_region 8 with (fail)
  generalize (v2.alloc (.cells #[.int .u16 (cv : Int), .int .u16 (cw : Int), .int .u16 (cl : Int), .int .i64 ce, .int .i64 ck] 30)) = u2 at *
  generalize v2.heap.size = g2 at *
  have Hk2_0 := Lib.hid k2_0
  clear k2_0
  have Hk2_1 := Lib.hid k2_1
  clear k2_1
  have Hk2_2 := Lib.hid k2_2
  clear k2_2
  have Hk2_3 := Lib.hid k2_3
  clear k2_3
  have HB2 := Lib.hid b2
  clear b2
  obtain ⟨x0, x1, x2, x3, x4, x5⟩ := blk6 Hk2_0.out
  have cC := Lib.hid (C4.out hlb _ HB2.out)
  clear C4
  go_wp2_with fail
  refine cC.out.mono ?_
  rintro e v3 ⟨rfl, hY⟩
  clear x0 x1 x2 x3 x4 x5 cC
  have k3_0 := (Hk2_0.out.below hY Hk2_0.out.lt).alloc (.cells #[.int .u16 (cv : Int), .int .u16 (cw : Int), .int .u16 (cl : Int), .int .i64 ce, .int .i64 ck] 30)
  have k3_1 := (Hk2_1.out.below hY Hk2_1.out.lt).alloc (.cells #[.int .u16 (cv : Int), .int .u16 (cw : Int), .int .u16 (cl : Int), .int .i64 ce, .int .i64 ck] 30)
  have k3_2 := (Hk2_2.out.below hY Hk2_2.out.lt).alloc (.cells #[.int .u16 (cv : Int), .int .u16 (cw : Int), .int .u16 (cl : Int), .int .i64 ce, .int .i64 ck] 30)
  have k3_3 := (Hk2_3.out.below hY Hk2_3.out.lt).alloc (.cells #[.int .u16 (cv : Int), .int .u16 (cw : Int), .int .u16 (cl : Int), .int .i64 ce, .int .i64 ck] 30)
  have k3_4 : Blk 30 (v3.alloc (.cells #[.int .u16 (cv : Int), .int .u16 (cw : Int), .int .u16 (cl : Int), .int .i64 ce, .int .i64 ck] 30)) v3.heap.size [.int .u16 (cv : Int), .int .u16 (cw : Int), .int .u16 (cl : Int), .int .i64 ce, .int .i64 ck] := heap_alloc_new v3 _
  have b3 := (HB2.out.trans (hY.mono HB2.out.size)).alloc (HB2.out.trans (hY.mono HB2.out.size)).size (.cells #[.int .u16 (cv : Int), .int .u16 (cw : Int), .int .u16 (cl : Int), .int .i64 ce, .int .i64 ck] 30)
  clear hY Hk2_0 Hk2_1 Hk2_2 Hk2_3 HB2
  go_upto_region 9 with (fail)
  generalize (v3.alloc (.cells #[.int .u16 (cv : Int), .int .u16 (cw : Int), .int .u16 (cl : Int), .int .i64 ce, .int .i64 ck] 30)) = u3 at *
  generalize v3.heap.size = g3 at *
  have Hk3_0 := Lib.hid k3_0
  clear k3_0
  have Hk3_1 := Lib.hid k3_1
  clear k3_1
  have Hk3_2 := Lib.hid k3_2
  clear k3_2
  have Hk3_3 := Lib.hid k3_3
  clear k3_3
  have Hk3_4 := Lib.hid k3_4
  clear k3_4
  have HB3 := Lib.hid b3
  clear b3
  have HS : Hid (∀ wq, Below u3.heap.size u3 wq → (wq.cell? ⟨w.heap.size, 0, none⟩ = some (.slice z1 n1 c1) ∧ wq.cell? ⟨w.heap.size, 1, none⟩ = some (.slice z2 n2 c2_) ∧ wq.cell? ⟨w.heap.size, 2, none⟩ = some (.slice z3 n3 c3) ∧ wq.cell? ⟨w.heap.size, 3, none⟩ = some (.int .i64 ze) ∧ wq.cell? ⟨w.heap.size, 4, none⟩ = some (.int .i64 zk) ∧ wq.cell? ⟨w.heap.size, 5, none⟩ = some (.int .i64 zs)) ∧ (wq.cell? ⟨g0, 0, none⟩ = some (.int .u16 (av : Int)) ∧ wq.cell? ⟨g0, 1, none⟩ = some (.int .u16 (aw : Int)) ∧ wq.cell? ⟨g0, 2, none⟩ = some (.int .u16 (al : Int)) ∧ wq.cell? ⟨g0, 3, none⟩ = some (.int .i64 ae) ∧ wq.cell? ⟨g0, 4, none⟩ = some (.int .i64 ak)) ∧ (wq.cell? ⟨g1, 0, none⟩ = some (.int .u16 (av : Int)) ∧ wq.cell? ⟨g1, 1, none⟩ = some (.int .u16 (aw : Int)) ∧ wq.cell? ⟨g1, 2, none⟩ = some (.int .u16 (al : Int)) ∧ wq.cell? ⟨g1, 3, none⟩ = some (.int .i64 ae) ∧ wq.cell? ⟨g1, 4, none⟩ = some (.int .i64 ak)) ∧ (wq.cell? ⟨g2, 0, none⟩ = some (.int .u16 (cv : Int)) ∧ wq.cell? ⟨g2, 1, none⟩ = some (.int .u16 (cw : Int)) ∧ wq.cell? ⟨g2, 2, none⟩ = some (.int .u16 (cl : Int)) ∧ wq.cell? ⟨g2, 3, none⟩ = some (.int .i64 ce) ∧ wq.cell? ⟨g2, 4, none⟩ = some (.int .i64 ck)) ∧ (wq.cell? ⟨g3, 0, none⟩ = some (.int .u16 (cv : Int)) ∧ wq.cell? ⟨g3, 1, none⟩ = some (.int .u16 (cw : Int)) ∧ wq.cell? ⟨g3, 2, none⟩ = some (.int .u16 (cl : Int)) ∧ wq.cell? ⟨g3, 3, none⟩ = some (.int .i64 ce) ∧ wq.cell? ⟨g3, 4, none⟩ = some (.int .i64 ck))) := fun wq hq => ⟨blk6 (Hk3_0.out.below hq Hk3_0.out.lt), blk5 (Hk3_1.out.below hq Hk3_1.out.lt), blk5 (Hk3_2.out.below hq Hk3_2.out.lt), blk5 (Hk3_3.out.below hq Hk3_3.out.lt), blk5 (Hk3_4.out.below hq Hk3_4.out.lt)⟩
  have c5 := Lib.hid (fun y hb => C5.out hlb y hb)
  have c6 := Lib.hid (fun y hb => C6.out hlb y hb)
  clear C5 C6
  have q0 := (Below.refl u3.heap.size u3).drew
  have EA := EAh.out
  have EC := ECh.out
  refine wp_region_held_drew (S := fun wq => (wq.cell? ⟨w.heap.size, 0, none⟩ = some (.slice z1 n1 c1) ∧ wq.cell? ⟨w.heap.size, 1, none⟩ = some (.slice z2 n2 c2_) ∧ wq.cell? ⟨w.heap.size, 2, none⟩ = some (.slice z3 n3 c3) ∧ wq.cell? ⟨w.heap.size, 3, none⟩ = some (.int .i64 ze) ∧ wq.cell? ⟨w.heap.size, 4, none⟩ = some (.int .i64 zk) ∧ wq.cell? ⟨w.heap.size, 5, none⟩ = some (.int .i64 zs)) ∧ (wq.cell? ⟨g0, 0, none⟩ = some (.int .u16 (av : Int)) ∧ wq.cell? ⟨g0, 1, none⟩ = some (.int .u16 (aw : Int)) ∧ wq.cell? ⟨g0, 2, none⟩ = some (.int .u16 (al : Int)) ∧ wq.cell? ⟨g0, 3, none⟩ = some (.int .i64 ae) ∧ wq.cell? ⟨g0, 4, none⟩ = some (.int .i64 ak)) ∧ (wq.cell? ⟨g1, 0, none⟩ = some (.int .u16 (av : Int)) ∧ wq.cell? ⟨g1, 1, none⟩ = some (.int .u16 (aw : Int)) ∧ wq.cell? ⟨g1, 2, none⟩ = some (.int .u16 (al : Int)) ∧ wq.cell? ⟨g1, 3, none⟩ = some (.int .i64 ae) ∧ wq.cell? ⟨g1, 4, none⟩ = some (.int .i64 ak)) ∧ (wq.cell? ⟨g2, 0, none⟩ = some (.int .u16 (cv : Int)) ∧ wq.cell? ⟨g2, 1, none⟩ = some (.int .u16 (cw : Int)) ∧ wq.cell? ⟨g2, 2, none⟩ = some (.int .u16 (cl : Int)) ∧ wq.cell? ⟨g2, 3, none⟩ = some (.int .i64 ce) ∧ wq.cell? ⟨g2, 4, none⟩ = some (.int .i64 ck)) ∧ (wq.cell? ⟨g3, 0, none⟩ = some (.int .u16 (cv : Int)) ∧ wq.cell? ⟨g3, 1, none⟩ = some (.int .u16 (cw : Int)) ∧ wq.cell? ⟨g3, 2, none⟩ = some (.int .u16 (cl : Int)) ∧ wq.cell? ⟨g3, 3, none⟩ = some (.int .i64 ce) ∧ wq.cell? ⟨g3, 4, none⟩ = some (.int .i64 ck))) (by kernel_rfl) (HS.out _ q0) (fun hHeld => ?_)
  refine tk 0 { dst := some 50, op := .load 30 (.tmp 7), type := 30, pos := "law.go:36", after := #[], guard := none } _ ?_
  try simp only [Act.put, List.setIfInBounds_toArray, List.set_cons_zero, List.set_cons_succ]
  refine tk 1 { dst := some 51, op := .load 30 (.tmp 9), type := 30, pos := "law.go:36", after := #[], guard := none } _ ?_
  try simp only [Act.put, List.setIfInBounds_toArray, List.set_cons_zero, List.set_cons_succ]
  refine tk 2 { dst := some 52, op := .binOp .eql 30 (.tmp 50) (.tmp 51) 30, type := 4, pos := "law.go:36", after := #[{ on := 0, ground := .data }, { on := 1, ground := .data }], guard := none } _ ?_
  try simp only [Act.put, List.setIfInBounds_toArray, List.set_cons_zero, List.set_cons_succ]
  refine tk 3 { dst := some 53, op := .move (.tmp 52), type := 4, pos := "law.go:36", after := #[{ on := 2, ground := .data }], guard := none } _ ?_
  try simp only [Act.put, List.setIfInBounds_toArray, List.set_cons_zero, List.set_cons_succ]
  refine tk 4 { dst := some 54, op := .move (.tmp 8), type := 31, pos := "law.go:36", after := #[{ on := 3, ground := .guard }], guard := some (3, true) } _ ?_
  try simp only [Act.put, List.setIfInBounds_toArray, List.set_cons_zero, List.set_cons_succ]
  refine tk 5 { dst := some 55, op := .move (.tmp 10), type := 31, pos := "law.go:36", after := #[{ on := 3, ground := .guard }], guard := some (3, true) } _ ?_
  try simp only [Act.put, List.setIfInBounds_toArray, List.set_cons_zero, List.set_cons_succ]
  refine tk 6 { dst := some 56, op := .binOp .eql 31 (.tmp 54) (.tmp 55) 31, type := 4, pos := "law.go:36", after := #[{ on := 4, ground := .data }, { on := 5, ground := .data }, { on := 3, ground := .guard }], guard := some (3, true) } _ ?_
  try simp only [Act.put, List.setIfInBounds_toArray, List.set_cons_zero, List.set_cons_succ]
  refine tk 7 { dst := some 57, op := .pick (.tmp 53) (.tmp 56) (.const (.bool false)), type := 4, pos := "law.go:36", after := #[{ on := 3, ground := .data }, { on := 6, ground := .data }], guard := none } _ ?_
  try simp only [Act.put, List.setIfInBounds_toArray, List.set_cons_zero, List.set_cons_succ]
  refine tk 8 { dst := some 58, op := .move (.tmp 57), type := 4, pos := "law.go:36", after := #[{ on := 7, ground := .data }, { on := 3, ground := .chain }], guard := none } _ ?_
  try simp only [Act.put, List.setIfInBounds_toArray, List.set_cons_zero, List.set_cons_succ]
  refine tk 9 { dst := some 59, op := .load 30 (.tmp 11), type := 30, pos := "law.go:36", after := #[{ on := 8, ground := .guard }], guard := some (8, true) } _ ?_
  try simp only [Act.put, List.setIfInBounds_toArray, List.set_cons_zero, List.set_cons_succ]
  refine tk 10 { dst := some 60, op := .load 30 (.tmp 13), type := 30, pos := "law.go:36", after := #[{ on := 8, ground := .guard }], guard := some (8, true) } _ ?_
  try simp only [Act.put, List.setIfInBounds_toArray, List.set_cons_zero, List.set_cons_succ]
  refine tk 11 { dst := some 61, op := .binOp .eql 30 (.tmp 59) (.tmp 60) 30, type := 4, pos := "law.go:36", after := #[{ on := 9, ground := .data }, { on := 10, ground := .data }, { on := 8, ground := .guard }], guard := some (8, true) } _ ?_
  try simp only [Act.put, List.setIfInBounds_toArray, List.set_cons_zero, List.set_cons_succ]
  refine tk 12 { dst := some 62, op := .pick (.tmp 58) (.tmp 61) (.const (.bool false)), type := 4, pos := "law.go:36", after := #[{ on := 8, ground := .data }, { on := 11, ground := .data }], guard := none } _ ?_
  try simp only [Act.put, List.setIfInBounds_toArray, List.set_cons_zero, List.set_cons_succ]
  refine tk 13 { dst := some 63, op := .move (.tmp 62), type := 4, pos := "law.go:36", after := #[{ on := 12, ground := .data }, { on := 8, ground := .chain }], guard := none } _ ?_
  try simp only [Act.put, List.setIfInBounds_toArray, List.set_cons_zero, List.set_cons_succ]
  refine tk 14 { dst := some 64, op := .move (.tmp 12), type := 31, pos := "law.go:36", after := #[{ on := 13, ground := .guard }], guard := some (13, true) } _ ?_
  try simp only [Act.put, List.setIfInBounds_toArray, List.set_cons_zero, List.set_cons_succ]
  refine tk 15 { dst := some 65, op := .move (.tmp 14), type := 31, pos := "law.go:36", after := #[{ on := 13, ground := .guard }], guard := some (13, true) } _ ?_
  try simp only [Act.put, List.setIfInBounds_toArray, List.set_cons_zero, List.set_cons_succ]
  refine tk 16 { dst := some 66, op := .binOp .eql 31 (.tmp 64) (.tmp 65) 31, type := 4, pos := "law.go:36", after := #[{ on := 14, ground := .data }, { on := 15, ground := .data }, { on := 13, ground := .guard }], guard := some (13, true) } _ ?_
  try simp only [Act.put, List.setIfInBounds_toArray, List.set_cons_zero, List.set_cons_succ]
  refine tk 17 { dst := some 67, op := .pick (.tmp 63) (.tmp 66) (.const (.bool false)), type := 4, pos := "law.go:36", after := #[{ on := 13, ground := .data }, { on := 16, ground := .data }], guard := none } _ ?_
  try simp only [Act.put, List.setIfInBounds_toArray, List.set_cons_zero, List.set_cons_succ]
  refine tk 18 { dst := some 68, op := .move (.tmp 67), type := 4, pos := "law.go:36", after := #[{ on := 17, ground := .data }, { on := 13, ground := .chain }], guard := none } _ ?_
  try simp only [Act.put, List.setIfInBounds_toArray, List.set_cons_zero, List.set_cons_succ]
  refine tk 19 { dst := some 69, op := .load 24 (.tmp 4), type := 24, pos := "law.go:36", after := #[{ on := 18, ground := .guard }], guard := some (18, true) } _ ?_
  try simp only [Act.put, List.setIfInBounds_toArray, List.set_cons_zero, List.set_cons_succ]
  refine tk 21 { dst := some 71, op := .load 24 (.tmp 4), type := 24, pos := "law.go:36", after := #[{ on := 18, ground := .guard }], guard := some (18, true) } _ ?_
  try simp only [Act.put, List.setIfInBounds_toArray, List.set_cons_zero, List.set_cons_succ]
  refine wpAnyH_ready (rs := [20]) (by kernel_rfl) (by simp) ?_
  refine AllReadyH.cons (o := { dst := some 70, op := .call { callee := .value (.func 13), args := #[.tmp 69], argTypes := #[24] }, type := 4, pos := "law.go:36", after := #[{ on := 19, ground := .data }, { on := 18, ground := .chain }, { on := 18, ground := .guard }], guard := some (18, true) }) rfl (fun KQ hKQ => ?_) AllReadyH.nil
  go_simp
  refine (c5.out _ (HB3.out.trans (q0.mono HB3.out.size))).mono ?_
  rintro e v5 ⟨rfl, hY5⟩
  have q1 := q0.trans (hY5.mono q0.size)
  have r1 := HS.out _ q1
  go_wp2_with fail
  refine hKQ.out _ _ ?s_20 (fun hHeld20 => ?_)
  case s_20 => exact r1
  clear hKQ KQ
  try simp only [Act.put, List.setIfInBounds_toArray, List.set_cons_zero, List.set_cons_succ]
  refine wpAnyH_ready (rs := [22]) (by kernel_rfl) (by simp) ?_
  refine AllReadyH.cons (o := { dst := some 72, op := .call { callee := .value (.func 14), args := #[.tmp 71], argTypes := #[24] }, type := 4, pos := "law.go:36", after := #[{ on := 21, ground := .data }, { on := 20, ground := .chain }, { on := 18, ground := .guard }], guard := some (18, true) }) rfl (fun KQ hKQ => ?_) AllReadyH.nil
  go_simp
  refine (c6.out _ (HB3.out.trans (q1.mono HB3.out.size))).mono ?_
  rintro e v6 ⟨rfl, hY6⟩
  have q2 := q1.trans (hY6.mono q1.size)
  have r2 := HS.out _ q2
  go_wp2_with fail
  refine hKQ.out _ _ ?s_22 (fun hHeld22 => ?_)
  case s_22 => exact r2
  clear hKQ KQ
  try simp only [Act.put, List.setIfInBounds_toArray, List.set_cons_zero, List.set_cons_succ]
  refine tk 23 { dst := some 73, op := .binOp .eql 4 (.tmp 70) (.tmp 72) 4, type := 4, pos := "law.go:36", after := #[{ on := 20, ground := .data }, { on := 22, ground := .data }, { on := 18, ground := .guard }], guard := some (18, true) } _ ?_
  try simp only [Act.put, List.setIfInBounds_toArray, List.set_cons_zero, List.set_cons_succ]
  refine tk 24 { dst := some 74, op := .pick (.tmp 68) (.tmp 73) (.const (.bool false)), type := 4, pos := "law.go:36", after := #[{ on := 18, ground := .data }, { on := 23, ground := .data }], guard := none } _ ?_
  try simp only [Act.put, List.setIfInBounds_toArray, List.set_cons_zero, List.set_cons_succ]
  refine tk 25 { dst := some 6, op := .assign (.tmp 74), type := 4, pos := "law.go:36", after := #[{ on := 24, ground := .data }, { on := 22, ground := .chain }, { on := 0, ground := .phase }, { on := 1, ground := .phase }, { on := 2, ground := .phase }, { on := 3, ground := .phase }, { on := 4, ground := .phase }, { on := 5, ground := .phase }, { on := 6, ground := .phase }, { on := 7, ground := .phase }, { on := 8, ground := .phase }, { on := 9, ground := .phase }, { on := 10, ground := .phase }, { on := 11, ground := .phase }, { on := 12, ground := .phase }, { on := 13, ground := .phase }, { on := 14, ground := .phase }, { on := 15, ground := .phase }, { on := 16, ground := .phase }, { on := 17, ground := .phase }, { on := 18, ground := .phase }, { on := 19, ground := .phase }, { on := 20, ground := .phase }, { on := 21, ground := .phase }, { on := 22, ground := .phase }, { on := 23, ground := .phase }, { on := 24, ground := .phase }], guard := none } _ ?_
  try simp only [Act.put, List.setIfInBounds_toArray, List.set_cons_zero, List.set_cons_succ]
  refine wpAnyH_done (by kernel_rfl) ?_ _
  go_wp2_with fail
  go_ret
  exact ⟨rfl, HB3.out.trans (q2.mono HB3.out.size)⟩
end Go.Proofs.YtfcljdpjjabhjaaDoor.law11
