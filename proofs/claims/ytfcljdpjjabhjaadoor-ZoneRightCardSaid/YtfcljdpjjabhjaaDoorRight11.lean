/- ZoneRight answers true: what Check lets through has just what the zone asks for, and survives what it must; what it refuses as ErrZone does not. Condition: the library's table reads as its text lays it. -/
import Derived.Test.YtfcljdpjjabhjaaDoorBegun11
import Derived.Test.YtfcljdpjjabhjaaDoorLight11
import Derived.Test.YtfcljdpjjabhjaaDoorRef10d
import Derived.Test.YtfcljdpjjabhjaaDoorZnS
import Derived.Test.YtfcljdpjjabhjaaDoorZonF
import Derived.Test.YtfcljdpjjabhjaaDoorEqCf
namespace Go.Proofs.YtfcljdpjjabhjaaDoor.law11
open Go Go.RowKit Go.Proofs.YtfcljdpjjabhjaaDoor.kit Go.Proofs.YtfcljdpjjabhjaaDoor.nums Go.Proofs.YtfcljdpjjabhjaaDoor.se Go.Proofs.YtfcljdpjjabhjaaDoor.cf Go.Proofs.YtfcljdpjjabhjaaDoor.zn Go.Proofs.YtfcljdpjjabhjaaDoor.ref9 Go.Proofs.YtfcljdpjjabhjaaDoor.zoni
set_option linter.unusedVariables false

set_option maxRecDepth 10000 in
set_option maxHeartbeats 2000000 in
theorem right_no (A : Option Addr) (n c : Nat) (rs : List Int) (a : ZnA) (z : ZnL) (A2 : Option Addr) (m c2 : Nat) (ld : List Int) (w : World)
    (hT : TabW w) (hR : RdV w w.heap.size A n (i64s rs)) (hZ : RdZ0 w w.heap.size a z) (hL : RdV w w.heap.size A2 m (i64s ld)) (e1 : Int) (hrc : checkF rs z ld = (zeroC, e1)) (h0 : e1 ≠ 0) (h12 : e1 ≠ 12) :
    Calls Tryd.prog 5 #[.slice A n c, znV a z, .slice A2 m c2] w fun e w' => e = .returned (.bool true) ∧ Below w.heap.size w w' := by
  have CB := Lib.hid (fun y (hb : Below w.heap.size w y) => begun_any y (hT.on hb))
  have CL := Lib.hid (fun y => light_any A n c a z A2 m c2 y)
  have C1 := Lib.hid (fun (hlb : lightB n a m = true) y (hb : Below w.heap.size w y) => zoni.check_any A n c rs a z A2 m c2 ld y (hT.on hb) (hR.on hb hb.size) (by have := light_lens hlb; omega) ((hZ.on hb hb.size).full (light_lens hlb).2.1 (light_lens hlb).2.2.1 (light_lens hlb).2.2.2.1) (hL.on hb hb.size) (by have := light_lens hlb; omega))
  have HLB := Lib.hid (fun (hlb : lightB n a m = true) => light_lens hlb)
  obtain ⟨lb, hlb⟩ : ∃ lb, lightB n a m = lb := ⟨_, rfl⟩
  rw [hlb] at CL
  clear hT hR hZ hL
  rw [hrc] at C1
  clear hrc
  unfold cfV at *
  dsimp only [zeroC] at *
  unfold znV at *
  obtain ⟨z1, n1, c1, z2, n2, c2_, z3, n3, c3⟩ := a
  obtain ⟨zv, zw, zl, ze, zk, zs⟩ := z
  dsimp only at *
  have kz : Blk 24 (w.alloc (.cells #[.slice z1 n1 c1, .slice z2 n2 c2_, .slice z3 n3 c3, .int .i64 ze, .int .i64 zk, .int .i64 zs] 24)) w.heap.size [.slice z1 n1 c1, .slice z2 n2 c2_, .slice z3 n3 c3, .int .i64 ze, .int .i64 zk, .int .i64 zs] := heap_alloc_new w _
  have hB0 := (Below.refl w.heap.size w).alloc (Nat.le_refl _) (.cells #[.slice z1 n1 c1, .slice z2 n2 c2_, .slice z3 n3 c3, .int .i64 ze, .int .i64 zk, .int .i64 zs] 24)
  go_enter Tryd.func5, Tryd.ntmps5
  go_upto_region 1 with (fail)
  generalize (w.alloc (.cells #[.slice z1 n1 c1, .slice z2 n2 c2_, .slice z3 n3 c3, .int .i64 ze, .int .i64 zk, .int .i64 zs] 24)) = w1 at *
  have K1 := Lib.hid kz
  have B1 := Lib.hid hB0
  clear kz hB0
  go_wp2_with fail
  refine (CB.out _ B1.out).mono ?_
  rintro e y1 ⟨rfl, hY1⟩
  have K2 := Lib.hid (K1.out.below hY1 K1.out.lt)
  have B2 := Lib.hid (B1.out.trans (hY1.mono B1.out.size))
  clear hY1 K1 B1 CB
  obtain ⟨x0, x1, x2, x3, x4, x5⟩ := blk6 K2.out
  go_wp2_with fail
  refine (CL.out _).mono ?_
  rintro e y2 ⟨rfl, hY2⟩
  have K3 := Lib.hid (K2.out.below hY2 K2.out.lt)
  have B3 := Lib.hid (B2.out.trans (hY2.mono B2.out.size))
  clear x0 x1 x2 x3 x4 x5 hY2 K2 B2 CL
  cases lb
  · go_wp2_with fail
    go_ret
    exact ⟨rfl, B3.out⟩
  have cC := Lib.hid (C1.out hlb _ B3.out)
  clear C1
  obtain ⟨x0, x1, x2, x3, x4, x5⟩ := blk6 K3.out
  have n0 : (e1 != 0) = true := by rw [bne_iff_ne]; exact h0
  have n12 : (e1 != 12) = true := by rw [bne_iff_ne]; exact h12
  go_wp2_with fail
  refine cC.out.mono ?_
  rintro e v0 ⟨rfl, hY⟩
  clear x0 x1 x2 x3 x4 x5
  have k0_K3 := (K3.out.below hY K3.out.lt).alloc (.cells #[.int .u16 ((0 : Nat) : Int), .int .u16 ((0 : Nat) : Int), .int .u16 ((0 : Nat) : Int), .int .i64 0, .int .i64 0] 30)
  have k0_n : Blk 30 (v0.alloc (.cells #[.int .u16 ((0 : Nat) : Int), .int .u16 ((0 : Nat) : Int), .int .u16 ((0 : Nat) : Int), .int .i64 0, .int .i64 0] 30)) v0.heap.size [.int .u16 ((0 : Nat) : Int), .int .u16 ((0 : Nat) : Int), .int .u16 ((0 : Nat) : Int), .int .i64 0, .int .i64 0] := heap_alloc_new v0 _
  have b0 := (B3.out.trans (hY.mono B3.out.size)).alloc (B3.out.trans (hY.mono B3.out.size)).size (.cells #[.int .u16 ((0 : Nat) : Int), .int .u16 ((0 : Nat) : Int), .int .u16 ((0 : Nat) : Int), .int .i64 0, .int .i64 0] 30)
  have g0_le : w.heap.size ≤ v0.heap.size := (B3.out.trans (hY.mono B3.out.size)).size
  clear hY K3 B3
  go_upto_region 6 with (fail)
  generalize (v0.alloc (.cells #[.int .u16 ((0 : Nat) : Int), .int .u16 ((0 : Nat) : Int), .int .u16 ((0 : Nat) : Int), .int .i64 0, .int .i64 0] 30)) = u0 at *
  generalize v0.heap.size = g0 at *
  have Hk0_K3 := Lib.hid k0_K3
  clear k0_K3
  have Hk0_n := Lib.hid k0_n
  clear k0_n
  have HB0 := Lib.hid b0
  clear b0
  obtain ⟨d0, d1, d2, d3, d4⟩ := blk5 Hk0_n.out
  go_wp2_with fail
  go_ret
  exact ⟨by simp, HB0.out⟩
theorem elJ_one (c : CfL) (g : Nat) : elJ ⟨c, zeroC, false⟩ g = elC c g := by simp [elJ, bothJ]
theorem coJ_one (c : CfL) (g : Nat) : coJ ⟨c, zeroC, false⟩ g = coC c g := by simp [coJ, bothJ]
theorem mayJ_one {c : CfL} (h : mayC c = true) : mayJ ⟨c, zeroC, false⟩ = true := by simp [mayJ, h]
set_option maxRecDepth 10000 in
set_option maxHeartbeats 8000000 in
theorem right_yes (A : Option Addr) (n c : Nat) (rs : List Int) (a : ZnA) (z : ZnL) (A2 : Option Addr) (m c2 : Nat) (ld : List Int) (w : World)
    (hT : TabW w) (hR : RdV w w.heap.size A n (i64s rs)) (hZ : RdZ0 w w.heap.size a z) (hL : RdV w w.heap.size A2 m (i64s ld)) (e1 : Int) (cc : CfL) (S : Nat → Nat) (de dk : Int) (f : Nat → List Int) (hf : z.lst = f) (hrc : checkF rs z ld = (cc, e1)) (he : e1 = 0 ∨ e1 = 12) (hc0 : e1 = 0 → cc = ⟨S 0, S 1, S 2, de, dk⟩)
    (hra : allotF rs z ld = (⟨S 0, S 1, S 2, de, dk⟩, 0)) (hok : (⟨S 0, S 1, S 2, de, dk⟩ : CfL).ok) (hcnt : ∀ i r, i < 3 → r < 4 → ((cntTo (S i &&& regF rs ((r : Nat) : Int)) rs.length : Nat) : Int) = (f i).getD r 0) (h9 : rs.length ≤ 9) (hmay : mayC ⟨S 0, S 1, S 2, de, dk⟩ = true)
    (hsv : z.s = 0 ∨ z.s = 1 ∨ z.s = 2) (hbrk : brkTo rs ⟨S 0, S 1, S 2, de, dk⟩ z.s 10 = decide (e1 = 12)) :
    Calls Tryd.prog 5 #[.slice A n c, znV a z, .slice A2 m c2] w fun e w' => e = .returned (.bool true) ∧ Below w.heap.size w w' := by
  have CB := Lib.hid (fun y (hb : Below w.heap.size w y) => begun_any y (hT.on hb))
  have CL := Lib.hid (fun y => light_any A n c a z A2 m c2 y)
  have C1 := Lib.hid (fun (hlb : lightB n a m = true) y (hb : Below w.heap.size w y) => zoni.check_any A n c rs a z A2 m c2 ld y (hT.on hb) (hR.on hb hb.size) (by have := light_lens hlb; omega) ((hZ.on hb hb.size).full (light_lens hlb).2.1 (light_lens hlb).2.2.1 (light_lens hlb).2.2.2.1) (hL.on hb hb.size) (by have := light_lens hlb; omega))
  have C2 := Lib.hid (fun (hlb : lightB n a m = true) y (hb : Below w.heap.size w y) => zoni.allot_any A n c rs a z A2 m c2 ld y (hT.on hb) (hR.on hb hb.size) (by have := light_lens hlb; omega) ((hZ.on hb hb.size).full (light_lens hlb).2.1 (light_lens hlb).2.2.1 (light_lens hlb).2.2.2.1) (hL.on hb hb.size) (by have := light_lens hlb; omega))
  have CG := Lib.hid (fun (j : Nat) (hj : j < n) y (hb : Below w.heap.size w y) => zoni.rd_get (hR.on hb hb.size) j hj)
  have hl := zoni.rd_len hR
  have HC : Hid (∀ i, i < 3 → ∃ A m c, ([.slice a.a1 a.n1 a.c1, .slice a.a2 a.n2 a.c2, .slice a.a3 a.n3 a.c3] : List Value)[i]? = some (.slice A m c) ∧ (∀ y, Below w.heap.size w y → RdV y y.heap.size A m (i64s (f i)))) := fun i hi => by
    rw [← hf]
    have hi3 : i = 0 ∨ i = 1 ∨ i = 2 := by omega
    rcases hi3 with rfl | rfl | rfl
    · exact ⟨_, _, _, rfl, fun y hb => hZ.r1.on hb hb.size⟩
    · exact ⟨_, _, _, rfl, fun y hb => hZ.r2.on hb hb.size⟩
    · exact ⟨_, _, _, rfl, fun y hb => hZ.r3.on hb hb.size⟩
  have S0 : S 0 < 65536 := hok.1
  have S1 : S 1 < 65536 := hok.2.1
  have S2 : S 2 < 65536 := hok.2.2.1
  have HSL : Hid (∀ i, i < 3 → S i < 65536) := fun i hi => by
    have hi3 : i = 0 ∨ i = 1 ∨ i = 2 := by omega
    rcases hi3 with rfl | rfl | rfl
    · exact S0
    · exact S1
    · exact S2
  have CH := Lib.hid (fun (i j : Nat) (hi : i < 3) (hj : j ≤ 9) y => has_any (S i) ((j + 1 : Nat) : Int) y (HSL.out i hi) (by omega) (by omega))
  have CW := Lib.hid (fun (s j : Nat) (hs : s < 65536) (hj : j ≤ 9) y => with_any s ((j + 1 : Nat) : Int) y hs (by omega) (by omega))
  have CE := Lib.hid (fun (g : Nat) (hg : g < 65536) y => elJ_one ⟨S 0, S 1, S 2, de, dk⟩ g ▸ ref10.elects_any ⟨⟨S 0, S 1, S 2, de, dk⟩, zeroC, false⟩ g y ⟨hok, zero_ok⟩ hg)
  have CC := Lib.hid (fun (g : Nat) (hg : g < 65536) y => coJ_one ⟨S 0, S 1, S 2, de, dk⟩ g ▸ ref10.commits_any ⟨⟨S 0, S 1, S 2, de, dk⟩, zeroC, false⟩ g y ⟨hok, zero_ok⟩ hg (mayJ_one hmay))
  have CM := Lib.hid (fun (g : Nat) (hg : g < 65536) y => ref9.meet_any g (S 0) y hg S0)
  have HCNT := Lib.hid hcnt
  have HBRK := Lib.hid hbrk
  have HSUC := Lib.hid (fun k => brkTo_succ rs ⟨S 0, S 1, S 2, de, dk⟩ z.s k)
  have HB0 : Hid (brkTo rs ⟨S 0, S 1, S 2, de, dk⟩ z.s 0 = false) := Lib.hid rfl
  have HBF : Hid (∀ g, brkF ⟨S 0, S 1, S 2, de, dk⟩ g = (!elC ⟨S 0, S 1, S 2, de, dk⟩ g || !coC ⟨S 0, S 1, S 2, de, dk⟩ g || decide (meetF g (S 0) = 0))) := fun g => rfl
  have HLT : Hid (∀ k j : Nat, j < 9 → leftTo rs z.s (k : Int) (j + 1) = if stayB rs z.s (k : Int) j = true then withF (leftTo rs z.s (k : Int) j) ((j + 1 : Nat) : Int) else leftTo rs z.s (k : Int) j) := fun k j _ => rfl
  have HL0 : Hid (∀ k : Nat, leftTo rs z.s (k : Int) 0 = 0) := fun _ => rfl
  have HLL : Hid (∀ (k j : Nat), j ≤ 9 → leftTo rs z.s (k : Int) j < 65536) := fun k j hj => Nat.lt_of_lt_of_le (may_lt (leftTo_may rs z.s (k : Int) j hj)) (by decide)
  have HST : Hid (∀ (k j : Nat), stayB rs z.s (k : Int) j = (decide (z.s = 0) || (decide (z.s = 1) && decide (((j + 1 : Nat) : Int) ≠ (k : Int))) || (decide (z.s = 2) && decide (rs.getD j (-1) ≠ (k : Int))))) := fun _ _ => rfl
  have HRG : Hid (∀ (S j : Nat) (x : Int) (r : Nat), rs[j]? = some x → cntTo (S &&& regF rs (r : Int)) (j + 1) = cntTo (S &&& regF rs (r : Int)) j + (decide (x = (r : Int)) && hasF S ((j + 1 : Nat) : Int)).toNat) := fun S j x r hx => cnt_reg h9 hx
  have hn9 : n ≤ 9 := by omega
  clear hf hcnt hbrk hok hmay S0 S1 S2 HSL
  have HLB := Lib.hid (fun (hlb : lightB n a m = true) => light_lens hlb)
  obtain ⟨lb, hlb⟩ : ∃ lb, lightB n a m = lb := ⟨_, rfl⟩
  rw [hlb] at CL
  clear hT hR hZ hL
  rw [hrc] at C1
  rw [hra] at C2
  clear hrc hra
  have hlen : rs.length = n := hl
  rw [hlen] at HCNT
  have HBT : Hid (∀ k : Nat, brkTo rs ⟨S 0, S 1, S 2, de, dk⟩ z.s (k + 1) = (brkTo rs ⟨S 0, S 1, S 2, de, dk⟩ z.s k || brkF ⟨S 0, S 1, S 2, de, dk⟩ (leftTo rs z.s (k : Int) n))) := fun k => by rw [← hlen]; exact HSUC.out k
  clear HSUC hlen hl h9
  generalize hbt : brkTo rs ⟨S 0, S 1, S 2, de, dk⟩ z.s = BT at *
  clear hbt
  generalize hbf : brkF ⟨S 0, S 1, S 2, de, dk⟩ = BF at *
  clear hbf
  generalize hel : elC ⟨S 0, S 1, S 2, de, dk⟩ = EL at *
  clear hel
  generalize hco : coC ⟨S 0, S 1, S 2, de, dk⟩ = CO at *
  clear hco
  generalize hlf : leftTo rs z.s = LF at *
  clear hlf
  generalize hst : stayB rs z.s = ST at *
  clear hst
  obtain ⟨cv, cw, cl, ce, ck⟩ := cc
  unfold cfV jtV at *
  dsimp only [zeroC] at *
  unfold znV at *
  obtain ⟨z1, n1, c1, z2, n2, c2_, z3, n3, c3⟩ := a
  obtain ⟨zv, zw, zl, ze, zk, zs⟩ := z
  dsimp only at *
  have kz : Blk 24 (w.alloc (.cells #[.slice z1 n1 c1, .slice z2 n2 c2_, .slice z3 n3 c3, .int .i64 ze, .int .i64 zk, .int .i64 zs] 24)) w.heap.size [.slice z1 n1 c1, .slice z2 n2 c2_, .slice z3 n3 c3, .int .i64 ze, .int .i64 zk, .int .i64 zs] := heap_alloc_new w _
  have hB0 := (Below.refl w.heap.size w).alloc (Nat.le_refl _) (.cells #[.slice z1 n1 c1, .slice z2 n2 c2_, .slice z3 n3 c3, .int .i64 ze, .int .i64 zk, .int .i64 zs] 24)
  go_enter Tryd.func5, Tryd.ntmps5
  go_upto_region 1 with (fail)
  generalize (w.alloc (.cells #[.slice z1 n1 c1, .slice z2 n2 c2_, .slice z3 n3 c3, .int .i64 ze, .int .i64 zk, .int .i64 zs] 24)) = w1 at *
  have K1 := Lib.hid kz
  have B1 := Lib.hid hB0
  clear kz hB0
  go_wp2_with fail
  refine (CB.out _ B1.out).mono ?_
  rintro e y1 ⟨rfl, hY1⟩
  have K2 := Lib.hid (K1.out.below hY1 K1.out.lt)
  have B2 := Lib.hid (B1.out.trans (hY1.mono B1.out.size))
  clear hY1 K1 B1 CB
  obtain ⟨x0, x1, x2, x3, x4, x5⟩ := blk6 K2.out
  go_wp2_with fail
  refine (CL.out _).mono ?_
  rintro e y2 ⟨rfl, hY2⟩
  have K3 := Lib.hid (K2.out.below hY2 K2.out.lt)
  have B3 := Lib.hid (B2.out.trans (hY2.mono B2.out.size))
  clear x0 x1 x2 x3 x4 x5 hY2 K2 B2 CL
  cases lb
  · go_wp2_with fail
    go_ret
    exact ⟨rfl, B3.out⟩
  have cC := Lib.hid (C1.out hlb _ B3.out)
  clear C1 HLB
  obtain ⟨x0, x1, x2, x3, x4, x5⟩ := blk6 K3.out
  go_wp2_with fail
  refine cC.out.mono ?_
  rintro e v0 ⟨rfl, hY⟩
  clear x0 x1 x2 x3 x4 x5
  have k0_K3 := (K3.out.below hY K3.out.lt).alloc (.cells #[.int .u16 (cv : Int), .int .u16 (cw : Int), .int .u16 (cl : Int), .int .i64 ce, .int .i64 ck] 30)
  have k0_n : Blk 30 (v0.alloc (.cells #[.int .u16 (cv : Int), .int .u16 (cw : Int), .int .u16 (cl : Int), .int .i64 ce, .int .i64 ck] 30)) v0.heap.size [.int .u16 (cv : Int), .int .u16 (cw : Int), .int .u16 (cl : Int), .int .i64 ce, .int .i64 ck] := heap_alloc_new v0 _
  have b0 := (B3.out.trans (hY.mono B3.out.size)).alloc (B3.out.trans (hY.mono B3.out.size)).size (.cells #[.int .u16 (cv : Int), .int .u16 (cw : Int), .int .u16 (cl : Int), .int .i64 ce, .int .i64 ck] 30)
  have g0_le : w.heap.size ≤ v0.heap.size := (B3.out.trans (hY.mono B3.out.size)).size
  clear hY K3 B3
  go_upto_region 6 with (fail)
  generalize (v0.alloc (.cells #[.int .u16 (cv : Int), .int .u16 (cw : Int), .int .u16 (cl : Int), .int .i64 ce, .int .i64 ck] 30)) = u0 at *
  generalize v0.heap.size = g0 at *
  have Hk0_K3 := Lib.hid k0_K3
  clear k0_K3
  have Hk0_n := Lib.hid k0_n
  clear k0_n
  have HB0 := Lib.hid b0
  clear b0
  clear cC
  go_cut [41] from 205 (fun t wx => t = .bool false ∧ wx = u0)
  case first =>
    rcases he with rfl | rfl
    · go_wp2_with fail
      go_meet
      case rel => exact ⟨rfl, rfl⟩
    · go_wp2_with fail
      go_meet
      case rel => exact ⟨rfl, rfl⟩
  case rest =>
    obtain ⟨rfl, hwc⟩ := hcut
    have hwc := hwc.symm
    subst hwc
    have cD := Lib.hid (C2.out hlb _ HB0.out)
    clear C2
    obtain ⟨x0, x1, x2, x3, x4, x5⟩ := blk6 Hk0_K3.out
    go_wp2_with fail
    refine cD.out.mono ?_
    rintro e v1 ⟨rfl, hY⟩
    clear x0 x1 x2 x3 x4 x5
    have k1_Hk0_K3 := (Hk0_K3.out.below hY Hk0_K3.out.lt).alloc (.cells #[.int .u16 ((S 0 : Nat) : Int), .int .u16 ((S 1 : Nat) : Int), .int .u16 ((S 2 : Nat) : Int), .int .i64 de, .int .i64 dk] 30)
    have k1_Hk0_n := (Hk0_n.out.below hY Hk0_n.out.lt).alloc (.cells #[.int .u16 ((S 0 : Nat) : Int), .int .u16 ((S 1 : Nat) : Int), .int .u16 ((S 2 : Nat) : Int), .int .i64 de, .int .i64 dk] 30)
    have k1_n : Blk 30 (v1.alloc (.cells #[.int .u16 ((S 0 : Nat) : Int), .int .u16 ((S 1 : Nat) : Int), .int .u16 ((S 2 : Nat) : Int), .int .i64 de, .int .i64 dk] 30)) v1.heap.size [.int .u16 ((S 0 : Nat) : Int), .int .u16 ((S 1 : Nat) : Int), .int .u16 ((S 2 : Nat) : Int), .int .i64 de, .int .i64 dk] := heap_alloc_new v1 _
    have b1 := (HB0.out.trans (hY.mono HB0.out.size)).alloc (HB0.out.trans (hY.mono HB0.out.size)).size (.cells #[.int .u16 ((S 0 : Nat) : Int), .int .u16 ((S 1 : Nat) : Int), .int .u16 ((S 2 : Nat) : Int), .int .i64 de, .int .i64 dk] 30)
    have g1_le : w.heap.size ≤ v1.heap.size := (HB0.out.trans (hY.mono HB0.out.size)).size
    clear hY Hk0_K3 Hk0_n HB0
    go_upto_region 9 with (fail)
    generalize (v1.alloc (.cells #[.int .u16 ((S 0 : Nat) : Int), .int .u16 ((S 1 : Nat) : Int), .int .u16 ((S 2 : Nat) : Int), .int .i64 de, .int .i64 dk] 30)) = u1 at *
    generalize v1.heap.size = g1 at *
    have Hk1_Hk0_K3 := Lib.hid k1_Hk0_K3
    clear k1_Hk0_K3
    have Hk1_Hk0_n := Lib.hid k1_Hk0_n
    clear k1_Hk0_n
    have Hk1_n := Lib.hid k1_n
    clear k1_n
    have HB1 := Lib.hid b1
    clear b1
    clear cD
    go_cut [62] from 205 (fun t wx => t = .bool false ∧ wx = u1)
    case first =>
      obtain ⟨x0, x1, x2, x3, x4⟩ := blk5 Hk1_Hk0_n.out
      obtain ⟨d0, d1, d2, d3, d4⟩ := blk5 Hk1_n.out
      rcases he with rfl | rfl
      · have hc := hc0 rfl
        injection hc with q0 q1 q2 q3 q4
        subst q0 q1 q2 q3 q4
        have hneq := kit.neq_self (S 0) (S 1) (S 2) ce ck u1
        go_wp2_with (rw [hneq])
        go_meet
        case rel => exact ⟨rfl, rfl⟩
      · go_wp2_with fail
        go_meet
        case rel => exact ⟨rfl, rfl⟩
    case rest =>
      obtain ⟨rfl, hwc⟩ := hcut
      have hwc := hwc.symm
      subst hwc
      clear Hk1_Hk0_n hc0
      have kzL := (Hk1_Hk0_K3.out.alloc (.cells #[.slice z1 n1 c1, .slice z2 n2 c2_, .slice z3 n3 c3] 22)).alloc (.cells #[.int .u16 ((S 0 : Nat) : Int), .int .u16 ((S 1 : Nat) : Int), .int .u16 ((S 2 : Nat) : Int)] 28)
      have kdL := (Hk1_n.out.alloc (.cells #[.slice z1 n1 c1, .slice z2 n2 c2_, .slice z3 n3 c3] 22)).alloc (.cells #[.int .u16 ((S 0 : Nat) : Int), .int .u16 ((S 1 : Nat) : Int), .int .u16 ((S 2 : Nat) : Int)] 28)
      have klL : Blk 22 ((u1.alloc (.cells #[.slice z1 n1 c1, .slice z2 n2 c2_, .slice z3 n3 c3] 22)).alloc (.cells #[.int .u16 ((S 0 : Nat) : Int), .int .u16 ((S 1 : Nat) : Int), .int .u16 ((S 2 : Nat) : Int)] 28)) u1.heap.size [.slice z1 n1 c1, .slice z2 n2 c2_, .slice z3 n3 c3] := Blk.alloc (heap_alloc_new u1 _) (.cells #[.int .u16 ((S 0 : Nat) : Int), .int .u16 ((S 1 : Nat) : Int), .int .u16 ((S 2 : Nat) : Int)] 28)
      have ksL : Blk 28 ((u1.alloc (.cells #[.slice z1 n1 c1, .slice z2 n2 c2_, .slice z3 n3 c3] 22)).alloc (.cells #[.int .u16 ((S 0 : Nat) : Int), .int .u16 ((S 1 : Nat) : Int), .int .u16 ((S 2 : Nat) : Int)] 28)) (u1.alloc (.cells #[.slice z1 n1 c1, .slice z2 n2 c2_, .slice z3 n3 c3] 22)).heap.size [.int .u16 ((S 0 : Nat) : Int), .int .u16 ((S 1 : Nat) : Int), .int .u16 ((S 2 : Nat) : Int)] := heap_alloc_new _ _
      have bL := (HB1.out.alloc HB1.out.size (.cells #[.slice z1 n1 c1, .slice z2 n2 c2_, .slice z3 n3 c3] 22)).alloc (by have := HB1.out.size; simp; omega) (.cells #[.int .u16 ((S 0 : Nat) : Int), .int .u16 ((S 1 : Nat) : Int), .int .u16 ((S 2 : Nat) : Int)] 28)
      have e2 : (u1.alloc (.cells #[.slice z1 n1 c1, .slice z2 n2 c2_, .slice z3 n3 c3] 22)).heap.size = u1.heap.size + 1 := by simp
      rw [e2] at ksL
      clear e2
      obtain ⟨x0, x1, x2, x3, x4, x5⟩ := blk6 Hk1_Hk0_K3.out
      obtain ⟨d0, d1, d2, d3, d4⟩ := blk5 (Hk1_n.out.alloc (.cells #[.slice z1 n1 c1, .slice z2 n2 c2_, .slice z3 n3 c3] 22))
      go_upto_region 13 with (fail)
      generalize ((u1.alloc (.cells #[.slice z1 n1 c1, .slice z2 n2 c2_, .slice z3 n3 c3] 22)).alloc (.cells #[.int .u16 ((S 0 : Nat) : Int), .int .u16 ((S 1 : Nat) : Int), .int .u16 ((S 2 : Nat) : Int)] 28)) = w3 at *
      generalize u1.heap.size = gl at *
      have KZ := Lib.hid kzL
      have KD := Lib.hid kdL
      have KL := Lib.hid klL
      have KS := Lib.hid ksL
      have HB := Lib.hid bL
      clear kzL kdL klL ksL bL x0 x1 x2 x3 x4 x5 d0 d1 d2 d3 d4 Hk1_Hk0_K3 Hk1_n HB1
      go_wp2_with fail
      go_loop [13] (fun iv => ∃ i : Nat, i ≤ 3 ∧ iv = .int .i64 (i : Int)) (fun iv => 3 - (intOf iv).toNat)
      case atStart => exact ⟨0, by omega, rfl⟩
      case round =>
        obtain ⟨i, hi, rfl⟩ := hrel
        by_cases hlt : i < 3
        · have hii : (i : Int) < 3 := by omega
          obtain ⟨Ai, mi, ci, hcell, hRi⟩ := HC.out i hlt
          have HRi := Lib.hid (hRi w3 HB.out)
          have hcl : w3.cell? ⟨gl, i, none⟩ = some (.slice Ai mi ci) := (KL.out.cell i).trans hcell
          have hcs : w3.cell? ⟨gl + 1, i, none⟩ = some (.int .u16 ((S i : Nat) : Int)) := by
            rw [KS.out.cell i]
            have hi3 : i = 0 ∨ i = 1 ∨ i = 2 := by omega
            rcases hi3 with rfl | rfl | rfl <;> rfl
          have CHi := Lib.hid (fun j hj y => CH.out i j hlt hj y)
          have HCi := Lib.hid (fun r hr => HCNT.out i r hlt hr)
          obtain ⟨si, hsi⟩ : ∃ si, S i = si := ⟨_, rfl⟩
          rw [hsi] at hcs CHi HCi
          obtain ⟨fi, hfi⟩ : ∃ fi, f i = fi := ⟨_, rfl⟩
          rw [hfi] at HRi HCi
          clear hcell hRi hsi hfi
          go_wp2_with fail
          go_loop [14] (fun rv => ∃ r : Nat, r ≤ 4 ∧ rv = .int .i64 (r : Int)) (fun rv => 4 - (intOf rv).toNat)
          case atStart => exact ⟨0, by omega, rfl⟩
          case round =>
            obtain ⟨r, hr, rfl⟩ := hrel
            by_cases hlr : r < 4
            · have hrr : (r : Int) < 4 := by omega
              have HCr := Lib.hid (HCi.out r hlr)
              have HG1 := Lib.hid (fun j x hx => HRG.out si j x r hx)
              obtain ⟨QF, hQF⟩ : ∃ QF : Nat → Nat, cntTo (si &&& regF rs (r : Int)) = QF := ⟨_, rfl⟩
              rw [hQF] at HCr HG1
              have HQ0 : Hid (QF 0 = 0) := by rw [← hQF]; exact Lib.hid rfl
              clear hQF HCi
              go_wp2_with fail
              go_loop [15, 16] (fun qv kv => ∃ j q : Nat, j ≤ n ∧ qv = .int .i64 (q : Int) ∧ kv = .int .i64 ((j + 1 : Nat) : Int) ∧ q ≤ j ∧ Hid (q = QF j)) (fun _ kv => n + 1 - (intOf kv).toNat)
              case atStart => exact ⟨0, 0, by omega, rfl, rfl, by omega, HQ0.out.symm⟩
              case round =>
                obtain ⟨j, q, hj, rfl, rfl, hq, HQ⟩ := hrel
                by_cases hlj : j < n
                · obtain ⟨b, o, x, hA1, hb1, hx, hcx⟩ := CG.out j hlj _ HB.out
                  subst hA1
                  have HS1 := Lib.hid (HG1.out j x hx)
                  have ch := Lib.hid (CHi.out j (by omega))
                  clear hx hb1 CG CHi HCr HRi HC CH CW CE CC CM HCNT HG1 HRG
                  generalize hasF si ((j + 1 : Nat) : Int) = ba at *
                  have hjn : (j : Int) + 1 ≤ (n : Int) := by omega
                  have e2 : ((j + 1 : Nat) : Int) - 1 = (j : Int) := by omega
                  have wj : IntKind.i64.wrap (j : Int) = (j : Int) := by simp [IntKind.wrap, IntKind.bits, IntKind.signed]; omega
                  have ljn : (j : Int) < (n : Int) := by omega
                  by_cases gx : x = (r : Int)
                  · have g0 : (x == (r : Int)) = true := by rw [beq_iff_eq]; exact gx
                    have S9 : Hid (QF (j + 1) = q + ba.toNat) := by show _ = _; rw [HS1.out, ← HQ.out, decide_eq_true gx]; rfl
                    clear HS1 HQ gx
                    cases ba
                    · go_wp2_with fail
                      refine (ch.out _).mono ?_
                      rintro e y9 ⟨rfl, rfl⟩
                      go_wp2_with fail
                      clear wj ljn e2 hjn
                      go_round
                      case rel => exact ⟨j + 1, q, by omega, rfl, by go_num, by omega, S9.out.symm⟩
                      case measure => simp [intOf]; omega
                    · go_wp2_with fail
                      refine (ch.out _).mono ?_
                      rintro e y9 ⟨rfl, rfl⟩
                      go_wp2_with fail
                      clear wj ljn e2 hjn
                      go_round
                      case rel => exact ⟨j + 1, q + 1, by omega, by go_num, by go_num, by omega, S9.out.symm⟩
                      case measure => simp [intOf]; omega
                  · have g0 : (x == (r : Int)) = false := by rw [beq_eq_false_iff_ne]; exact gx
                    have S9 : Hid (QF (j + 1) = q) := by show _ = _; rw [HS1.out, ← HQ.out, decide_eq_false gx]; rfl
                    clear HS1 HQ gx ch
                    go_wp2_with fail
                    clear wj ljn e2 hjn
                    go_round
                    case rel => exact ⟨j + 1, q, by omega, rfl, by go_num, by omega, S9.out.symm⟩
                    case measure => simp [intOf]; omega
                · obtain rfl : j = n := by omega
                  have HV : Hid ((q : Int) = fi.getD r 0) := by show _ = _; rw [HQ.out]; exact HCr.out
                  have hlf := zoni.rd_len HRi.out
                  by_cases hrm : r < mi
                  · obtain ⟨b, o, x, hA1, hb1, hx, hcx⟩ := zoni.rd_get HRi.out r hrm
                    subst hA1
                    have hqx : x = (q : Int) := by rw [HV.out, List.getD_eq_getElem?_getD, hx]; rfl
                    subst hqx
                    have hrm2 : (r : Int) < (mi : Int) := by omega
                    have hrm3 : decide ((mi : Int) ≤ (r : Int)) = false := decide_eq_false (by omega)
                    clear hx hb1 HRi HV HQ HCr CHi HG1 HRG HCNT CG CH CW CE CC CM HC hlf
                    go_wp2_with fail
                    go_round
                    case rel => exact ⟨r + 1, by omega, by go_num⟩
                    case measure => simp [intOf]; omega
                  · have hq0 : q = 0 := by have := HV.out; rw [List.getD_eq_getElem?_getD, List.getElem?_eq_none (by omega)] at this; simp at this; omega
                    subst hq0
                    have hrm2 : ¬ (r : Int) < (mi : Int) := by omega
                    have hrm3 : (mi : Int) ≤ (r : Int) := by omega
                    clear HRi HV HQ HCr CHi HG1 HRG HCNT CG CH CW CE CC CM HC hlf
                    go_wp2_with fail
                    go_round
                    case rel => exact ⟨r + 1, by omega, by go_num⟩
                    case measure => simp [intOf]; omega
            · obtain rfl : r = 4 := by omega
              clear HRi HCi CHi HRG HCNT CG CH CW CE CC CM HC
              go_wp2_with fail
              go_round
              case rel => exact ⟨i + 1, by omega, by go_num⟩
              case measure => simp [intOf]; omega
        · obtain rfl : i = 3 := by omega
          have HS : Hid (∀ wq, Below w3.heap.size w3 wq → (wq.cell? ⟨w.heap.size, 0, none⟩ = some (.slice z1 n1 c1) ∧ wq.cell? ⟨w.heap.size, 1, none⟩ = some (.slice z2 n2 c2_) ∧ wq.cell? ⟨w.heap.size, 2, none⟩ = some (.slice z3 n3 c3) ∧ wq.cell? ⟨w.heap.size, 3, none⟩ = some (.int .i64 ze) ∧ wq.cell? ⟨w.heap.size, 4, none⟩ = some (.int .i64 zk) ∧ wq.cell? ⟨w.heap.size, 5, none⟩ = some (.int .i64 zs)) ∧ (wq.cell? ⟨g1, 0, none⟩ = some (.int .u16 ((S 0 : Nat) : Int)) ∧ wq.cell? ⟨g1, 1, none⟩ = some (.int .u16 ((S 1 : Nat) : Int)) ∧ wq.cell? ⟨g1, 2, none⟩ = some (.int .u16 ((S 2 : Nat) : Int)) ∧ wq.cell? ⟨g1, 3, none⟩ = some (.int .i64 de) ∧ wq.cell? ⟨g1, 4, none⟩ = some (.int .i64 dk))) := fun wq hq => ⟨blk6 (KZ.out.below hq KZ.out.lt), blk5 (KD.out.below hq KD.out.lt)⟩
          clear KZ KD KL KS HC HCNT CH HRG
          go_wp2_with fail
          go_loopw [17, 18] (fun bv kv wr => ∃ (k : Nat) (bb : Bool), k ≤ 10 ∧ bv = .bool bb ∧ kv = .int .i64 (k : Int) ∧ Hid (bb = BT k) ∧ Below w3.heap.size w3 wr) (fun _ kv _ => 10 - (intOf kv).toNat)
          case atStart => exact ⟨0, false, by omega, rfl, rfl, HB0.out.symm, Below.refl _ _⟩
          case round =>
            obtain ⟨k, bb, hk, rfl, rfl, HI, hBr⟩ := hrel
            by_cases hlk : k < 10
            · have hkk : (k : Int) ≤ 9 := by omega
              have r0 := (HS.out _ hBr).1
              have HL1 := Lib.hid (HL0.out k)
              have HL2 := Lib.hid (fun j hj => HLT.out k j hj)
              have HL3 := Lib.hid (fun j hj => HLL.out k j hj)
              have HS2 := Lib.hid (fun j => HST.out k j)
              have HB2 := Lib.hid (HBT.out k)
              obtain ⟨LK, hLK⟩ : ∃ LK : Nat → Nat, LF (k : Int) = LK := ⟨_, rfl⟩
              rw [hLK] at HL1 HL2 HL3 HB2
              obtain ⟨SK, hSK⟩ : ∃ SK : Nat → Bool, ST (k : Int) = SK := ⟨_, rfl⟩
              rw [hSK] at HL2 HS2
              clear hLK hSK
              have hBw := HB.out.trans (hBr.mono HB.out.size)
              have CGw := Lib.hid (fun j hj => CG.out j hj _ hBw)
              go_wp2_with fail
              go_loop [19, 20] (fun lv nv => ∃ j L : Nat, j ≤ n ∧ lv = .int .u16 (L : Int) ∧ nv = .int .i64 ((j + 1 : Nat) : Int) ∧ L < 65536 ∧ Hid (L = LK j)) (fun _ nv => n + 1 - (intOf nv).toNat)
              case atStart => exact ⟨0, 0, by omega, rfl, rfl, by omega, HL1.out.symm⟩
              case round =>
                obtain ⟨j, L, hj, rfl, rfl, hL, HLj⟩ := hrel
                by_cases hlj : j < n
                · obtain ⟨b, o, x, hA1, hb1, hx, hcx⟩ := CGw.out j hlj
                  subst hA1
                  have hd : rs.getD j (-1) = x := by rw [List.getD_eq_getElem?_getD, hx]; rfl
                  have HN := Lib.hid (HL2.out j (by omega))
                  have HNS := Lib.hid (HS2.out j)
                  rw [hd] at HNS
                  have cw1 := Lib.hid (CW.out L j hL (by omega))
                  have hlw : withF L ((j + 1 : Nat) : Int) < 65536 := withF_lt _ hL
                  rw [← HLj.out] at HN
                  generalize hwl : withF L ((j + 1 : Nat) : Int) = L2 at *
                  clear hwl hd hx hb1
                  obtain ⟨st, hst⟩ : ∃ st, SK j = st := ⟨_, rfl⟩
                  rw [hst] at HN HNS
                  skip
                  clear hst CGw CG CW CE CC CM HL1 HL2 HL3 HS2 HB2 HBT HLT HLL HST HBF HBRK HLj
                  obtain ⟨r1, r2, r3, r4, r5, r6⟩ := r0
                  have hjn : (j : Int) + 1 ≤ (n : Int) := by omega
                  have e2 : ((j + 1 : Nat) : Int) - 1 = (j : Int) := by omega
                  have wj : IntKind.i64.wrap (j : Int) = (j : Int) := by simp [IntKind.wrap, IntKind.bits, IntKind.signed]; omega
                  have ljn : (j : Int) < (n : Int) := by omega
                  rcases hsv with rfl | rfl | rfl
                  · obtain rfl : st = true := by have := HNS.out; simpa using this
                    clear HNS
                    have HN2 : Hid (LK (j + 1) = L2) := by show _ = _; rw [HN.out]; rfl
                    clear HN
                    go_wp2_with fail
                    refine (cw1.out _).mono ?_
                    rintro e y9 ⟨rfl, rfl⟩
                    go_wp2_with fail
                    clear wj ljn e2 hjn
                    go_round
                    case rel => exact ⟨j + 1, L2, by omega, rfl, by go_num, hlw, HN2.out.symm⟩
                    case measure => simp [intOf]; omega
                  · by_cases g : ((j + 1 : Nat) : Int) = (k : Int)
                    · have g0 : (((j + 1 : Nat) : Int) != (k : Int)) = false := by rw [bne_eq_false_iff_eq]; exact g
                      obtain rfl : st = false := by have := HNS.out; rw [decide_eq_false (p := ((j + 1 : Nat) : Int) ≠ (k : Int)) (fun h => h g)] at this; simpa using this
                      clear HNS
                      have g0b : ((j : Int) + 1 != (k : Int)) = false := by simpa using g0
                      clear g
                      have HN2 : Hid (LK (j + 1) = L) := by show _ = _; rw [HN.out]; rfl
                      clear HN cw1
                      go_wp2_with fail
                      clear wj ljn e2 hjn
                      go_round
                      case rel => exact ⟨j + 1, L, by omega, rfl, by go_num, hL, HN2.out.symm⟩
                      case measure => simp [intOf]; omega
                    · have g0 : (((j + 1 : Nat) : Int) != (k : Int)) = true := by rw [bne_iff_ne]; exact g
                      obtain rfl : st = true := by have := HNS.out; rw [decide_eq_true g] at this; simpa using this
                      clear HNS
                      have g0b : ((j : Int) + 1 != (k : Int)) = true := by simpa using g0
                      clear g
                      have HN2 : Hid (LK (j + 1) = L2) := by show _ = _; rw [HN.out]; rfl
                      clear HN
                      go_wp2_with fail
                      refine (cw1.out _).mono ?_
                      rintro e y9 ⟨rfl, rfl⟩
                      go_wp2_with fail
                      clear wj ljn e2 hjn
                      go_round
                      case rel => exact ⟨j + 1, L2, by omega, rfl, by go_num, hlw, HN2.out.symm⟩
                      case measure => simp [intOf]; omega
                  · by_cases g : x = (k : Int)
                    · have g0 : (x != (k : Int)) = false := by rw [bne_eq_false_iff_eq]; exact g
                      obtain rfl : st = false := by have := HNS.out; rw [decide_eq_false (p := x ≠ (k : Int)) (fun h => h g)] at this; simpa using this
                      clear HNS
                      clear g
                      have HN2 : Hid (LK (j + 1) = L) := by show _ = _; rw [HN.out]; rfl
                      clear HN cw1
                      go_wp2_with fail
                      clear wj ljn e2 hjn
                      go_round
                      case rel => exact ⟨j + 1, L, by omega, rfl, by go_num, hL, HN2.out.symm⟩
                      case measure => simp [intOf]; omega
                    · have g0 : (x != (k : Int)) = true := by rw [bne_iff_ne]; exact g
                      obtain rfl : st = true := by have := HNS.out; rw [decide_eq_true g] at this; simpa using this
                      clear HNS
                      clear g
                      have HN2 : Hid (LK (j + 1) = L2) := by show _ = _; rw [HN.out]; rfl
                      clear HN
                      go_wp2_with fail
                      refine (cw1.out _).mono ?_
                      rintro e y9 ⟨rfl, rfl⟩
                      go_wp2_with fail
                      clear wj ljn e2 hjn
                      go_round
                      case rel => exact ⟨j + 1, L2, by omega, rfl, by go_num, hlw, HN2.out.symm⟩
                      case measure => simp [intOf]; omega
                · obtain rfl : j = n := by omega
                  have HBN : Hid (BT (k + 1) = (bb || BF L)) := by show _ = _; rw [HB2.out, ← HI.out, ← HLj.out]
                  have HBL := Lib.hid (HBF.out L)
                  have cE := Lib.hid (CE.out L hL)
                  have cC := Lib.hid (CC.out L hL)
                  have cM := Lib.hid (CM.out L hL)
                  clear HB2 HI HLj CE CC CM CG CW CGw HL1 HL2 HL3 HS2 HBT HLT HLL HST HBF HBRK
                  obtain ⟨⟨r1, r2, r3, r4, r5, r6⟩, d0, d1, d2, d3, d4⟩ := HS.out _ hBr
                  have kj : Blk 43 (wr.alloc (.cells #[.int .u16 ((S 0 : Nat) : Int), .int .u16 ((S 1 : Nat) : Int), .int .u16 ((S 2 : Nat) : Int), .int .i64 de, .int .i64 dk, .int .u16 0, .int .u16 0, .int .u16 0, .int .i64 0, .int .i64 0, .bool false] 43)) wr.heap.size [.int .u16 ((S 0 : Nat) : Int), .int .u16 ((S 1 : Nat) : Int), .int .u16 ((S 2 : Nat) : Int), .int .i64 de, .int .i64 dk, .int .u16 0, .int .u16 0, .int .u16 0, .int .i64 0, .int .i64 0, .bool false] := heap_alloc_new wr _
                  have hBj := hBr.alloc hBr.size (.cells #[.int .u16 ((S 0 : Nat) : Int), .int .u16 ((S 1 : Nat) : Int), .int .u16 ((S 2 : Nat) : Int), .int .i64 de, .int .i64 dk, .int .u16 0, .int .u16 0, .int .u16 0, .int .i64 0, .int .i64 0, .bool false] 43)
                  go_upto_region 38 with (fail)
                  generalize (wr.alloc (.cells #[.int .u16 ((S 0 : Nat) : Int), .int .u16 ((S 1 : Nat) : Int), .int .u16 ((S 2 : Nat) : Int), .int .i64 de, .int .i64 dk, .int .u16 0, .int .u16 0, .int .u16 0, .int .i64 0, .int .i64 0, .bool false] 43)) = wj at *
                  generalize wr.heap.size = gj at *
                  have KJ := Lib.hid kj
                  clear r1 r2 r3 r4 r5 r6 d0 d1 d2 d3 d4 kj
                  have q0 := Below.refl wj.heap.size wj
                  have HS9 : Hid (∀ wq, Below wj.heap.size wj wq → (wq.cell? ⟨g1, 0, none⟩ = some (.int .u16 ((S 0 : Nat) : Int)) ∧ wq.cell? ⟨g1, 1, none⟩ = some (.int .u16 ((S 1 : Nat) : Int)) ∧ wq.cell? ⟨g1, 2, none⟩ = some (.int .u16 ((S 2 : Nat) : Int)) ∧ wq.cell? ⟨g1, 3, none⟩ = some (.int .i64 de) ∧ wq.cell? ⟨g1, 4, none⟩ = some (.int .i64 dk)) ∧ (wq.cell? ⟨gj, 0, none⟩ = some (.int .u16 ((S 0 : Nat) : Int)) ∧ wq.cell? ⟨gj, 1, none⟩ = some (.int .u16 ((S 1 : Nat) : Int)) ∧ wq.cell? ⟨gj, 2, none⟩ = some (.int .u16 ((S 2 : Nat) : Int)) ∧ wq.cell? ⟨gj, 3, none⟩ = some (.int .i64 de) ∧ wq.cell? ⟨gj, 4, none⟩ = some (.int .i64 dk) ∧ wq.cell? ⟨gj, 5, none⟩ = some (.int .u16 0) ∧ wq.cell? ⟨gj, 6, none⟩ = some (.int .u16 0) ∧ wq.cell? ⟨gj, 7, none⟩ = some (.int .u16 0) ∧ wq.cell? ⟨gj, 8, none⟩ = some (.int .i64 0) ∧ wq.cell? ⟨gj, 9, none⟩ = some (.int .i64 0) ∧ wq.cell? ⟨gj, 10, none⟩ = some (.bool false))) := fun wq hq => ⟨(HS.out _ (hBj.trans (hq.mono hBj.size))).2, blk11 (KJ.out.below hq KJ.out.lt)⟩
                  clear KJ r0 hBr
                  have r0 := HS9.out _ q0
                  cases bb
                  · cases hE : EL L
                    · have HX : Hid (BT (k + 1) = true) := by show _ = _; rw [HBN.out, HBL.out, hE]; rfl
                      rw [hE] at cE
                      clear HBN HBL hE cC cM
                      go_wp2_with fail
                      refine (cE.out _).mono ?_
                      rintro e y1 ⟨rfl, hY1⟩
                      have q1 := q0.trans (hY1.mono q0.size)
                      have r1 := HS9.out _ q1
                      go_wp2_with fail
                      go_round
                      case rel => exact ⟨k + 1, true, by omega, rfl, by go_num, HX.out.symm, hBj.trans (q1.mono hBj.size)⟩
                      case measure => simp [intOf]; omega
                    · cases hC : CO L
                      · have HX : Hid (BT (k + 1) = true) := by show _ = _; rw [HBN.out, HBL.out, hE, hC]; rfl
                        rw [hE] at cE
                        rw [hC] at cC
                        clear HBN HBL hE hC cM
                        go_wp2_with fail
                        refine (cE.out _).mono ?_
                        rintro e y1 ⟨rfl, hY1⟩
                        have q1 := q0.trans (hY1.mono q0.size)
                        have r1 := HS9.out _ q1
                        clear r0
                        go_wp2_with fail
                        refine (cC.out _).mono ?_
                        rintro e y2 ⟨rfl, hY2⟩
                        have q2 := q1.trans (hY2.mono q1.size)
                        have r2 := HS9.out _ q2
                        clear r1
                        go_wp2_with fail
                        go_round
                        case rel => exact ⟨k + 1, true, by omega, rfl, by go_num, HX.out.symm, hBj.trans (q2.mono hBj.size)⟩
                        case measure => simp [intOf]; omega
                      · have HX : Hid (BT (k + 1) = decide (meetF L (S 0) = 0)) := by show _ = _; rw [HBN.out, HBL.out, hE, hC]; simp
                        rw [hE] at cE
                        rw [hC] at cC
                        clear HBN HBL hE hC
                        generalize meetF L (S 0) = M at *
                        have hM : decide (M = 0) = ((M : Int) == 0) := by
                          by_cases h : M = 0
                          · subst h; rfl
                          · rw [decide_eq_false h]; symm; rw [beq_eq_false_iff_ne]; omega
                        rw [hM] at HX
                        clear hM
                        go_wp2_with fail
                        refine (cE.out _).mono ?_
                        rintro e y1 ⟨rfl, hY1⟩
                        have q1 := q0.trans (hY1.mono q0.size)
                        have r1 := HS9.out _ q1
                        clear r0
                        go_wp2_with fail
                        refine (cC.out _).mono ?_
                        rintro e y2 ⟨rfl, hY2⟩
                        have q2 := q1.trans (hY2.mono q1.size)
                        have r2 := HS9.out _ q2
                        clear r1
                        go_wp2_with fail
                        refine (cM.out _).mono ?_
                        rintro e y3 ⟨rfl, rfl⟩
                        go_wp2_with fail
                        go_round
                        case rel => exact ⟨k + 1, ((M : Int) == 0), by omega, rfl, by go_num, HX.out.symm, hBj.trans (q2.mono hBj.size)⟩
                        case measure => simp [intOf]; omega
                  · have HX : Hid (BT (k + 1) = true) := by show _ = _; rw [HBN.out]; rfl
                    clear HBN HBL cE cC cM
                    go_wp2_with fail
                    go_round
                    case rel => exact ⟨k + 1, true, by omega, rfl, by go_num, HX.out.symm, hBj⟩
                    case measure => simp [intOf]; omega
            · obtain rfl : k = 10 := by omega
              have HX : bb = decide (e1 = 12) := HI.out.trans HBRK.out
              clear HI HBRK CG CW CE CC CM HBT HLT HLL HST HBF HS
              rcases he with rfl | rfl
              · obtain rfl : bb = false := by rw [HX]; decide
                clear HX
                go_wp2_with fail
                go_ret
                exact ⟨rfl, HB.out.trans (hBr.mono HB.out.size)⟩
              · obtain rfl : bb = true := by rw [HX]; decide
                clear HX
                go_wp2_with fail
                go_ret
                exact ⟨rfl, HB.out.trans (hBr.mono HB.out.size)⟩
theorem right_walk (A : Option Addr) (n c : Nat) (rs : List Int) (a : ZnA) (z : ZnL) (A2 : Option Addr) (m c2 : Nat) (ld : List Int) (w : World)
    (hT : TabW w) (hR : RdV w w.heap.size A n (i64s rs)) (hZ : RdZ0 w w.heap.size a z) (hL : RdV w w.heap.size A2 m (i64s ld)) :
    Calls Tryd.prog 5 #[.slice A n c, znV a z, .slice A2 m c2] w fun e w' => e = .returned (.bool true) ∧ Below w.heap.size w w' := by
  obtain ⟨⟨cc, e1⟩, hrc⟩ : ∃ rc, checkF rs z ld = rc := ⟨_, rfl⟩
  rcases check_cases hrc with ⟨h0, h12, rfl⟩ | ⟨he, hR1, hZ1, s, hs, ha, hm, hc, hd⟩
  · exact right_no A n c rs a z A2 m c2 ld w hT hR hZ hL e1 hrc h0 h12
  · have hok := allot_ok rs z ld
    rw [ha] at hok
    have hsv : z.s = 0 ∨ z.s = 1 ∨ z.s = 2 := by
      unfold mayZ mayS at hZ1
      simp only [Bool.and_eq_true, decide_eq_true_eq] at hZ1
      omega
    refine right_yes A n c rs a z A2 m c2 ld w hT hR hZ hL e1 cc s.sel (confOf z s).e (confOf z s).k z.lst rfl hrc he hc ha hok (fun i r hi hr => right_count hR1 hZ1 hs hi hr) (mayR_len hR1).2.1 hm hsv ?_
    exact (right_breaks hR1 hZ1 hs hm).trans hd.symm
end Go.Proofs.YtfcljdpjjabhjaaDoor.law11
