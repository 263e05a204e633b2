/- The landed zone's Check. Conditions: slices read as lists of ints; the library's table reads as its text lays it. -/
import Derived.Test.YtfcljdpjjabhjaaDoorZonE
namespace Go.Proofs.YtfcljdpjjabhjaaDoor.zoni
open Go Go.RowKit Go.Proofs.YtfcljdpjjabhjaaDoor.kit Go.Proofs.YtfcljdpjjabhjaaDoor.nums Go.Proofs.YtfcljdpjjabhjaaDoor.se Go.Proofs.YtfcljdpjjabhjaaDoor.cf Go.Proofs.YtfcljdpjjabhjaaDoor.zn Go.Proofs.YtfcljdpjjabhjaaDoor.ref9
set_option linter.unusedVariables false

set_option maxHeartbeats 2000000 in
theorem check_any (A : Option Addr) (n cp : Nat) (rs : List Int) (a : ZnA) (z : ZnL) (A2 : Option Addr) (m2 cp2 : Nat) (ld : List Int) (W : World)
    (hT : TabW W) (hR : RdV W W.heap.size A n (i64s rs)) (hn : n ≤ 1099511627776) (hZ : RdZ W W.heap.size a z) (hL : RdV W W.heap.size A2 m2 (i64s ld)) (hm2 : m2 ≤ 1099511627776) :
    Calls Tryd.prog 11 #[.slice A n cp, znV a z, .slice A2 m2 cp2] W fun e w' => e = .returned (.tuple #[cfV (checkF rs z ld).1, .int .i64 (checkF rs z ld).2]) ∧ Below W.heap.size W w' := by
  have hok := allot_ok rs z ld
  have CA := Lib.hid (fun w (hb : Below W.heap.size W w) => allot_any A n cp rs a z A2 m2 cp2 ld w (hT.on hb) (hR.on hb hb.size) hn ((hZ.below hb).more hb.size) (hL.on hb hb.size) hm2)
  obtain ⟨c, e, HAL⟩ : ∃ c e, Hid (allotF rs z ld = (c, e)) := ⟨_, _, rfl⟩
  have hal := HAL.out
  rw [hal] at CA hok
  dsimp only at CA hok
  clear hal
  have CM := Lib.hid (fun w => confi.may_any c w hok)
  have CS := Lib.hid (fun w (hb : Below W.heap.size W w) => surv_any A n cp rs c z.s w W.heap.size (hR.below hb) hb.size hn hok)
  obtain ⟨res, hres⟩ : ∃ res, checkF rs z ld = res := ⟨_, rfl⟩
  rw [hres]
  have HRES := Lib.hid hres
  clear hR hZ hL hres hok
  obtain ⟨r1, r2⟩ := res
  dsimp only
  have HQ1 := Lib.hid (fun (he : e ≠ 0) => HRES.out.symm.trans (check_err HAL.out he))
  have HQ2 := Lib.hid (fun (he : e = 0) (hm : mayC c = false) => HRES.out.symm.trans (check_quo HAL.out he hm))
  have HQ3 := Lib.hid (fun (he : e = 0) (hm : mayC c = true) (hs : (survF rs c z.s).1 = false) => HRES.out.symm.trans (check_zone HAL.out he hm hs))
  have HQ4 := Lib.hid (fun (he : e = 0) (hm : mayC c = true) (hs : (survF rs c z.s).1 = true) => HRES.out.symm.trans (check_fine HAL.out he hm hs))
  generalize survF rs c z.s = sv at *
  generalize mayC c = mc at *
  clear HAL HRES
  obtain ⟨sv1, sv2⟩ := sv
  unfold znV cfV at *
  obtain ⟨cv, cw, cl, ce, ck⟩ := c
  obtain ⟨z1, n1, c1, z2, n2, c2, z3, n3, c3⟩ := a
  obtain ⟨zv, zw, zl, ze, zk, zs⟩ := z
  dsimp only at *
  have kz : Blk 24 ((W.alloc (.cells #[.slice z1 n1 c1, .slice z2 n2 c2, .slice z3 n3 c3, .int .i64 ze, .int .i64 zk, .int .i64 zs] 24)).alloc (.cells #[.int .u16 0, .int .u16 0, .int .u16 0, .int .i64 0, .int .i64 0] 30)) W.heap.size [.slice z1 n1 c1, .slice z2 n2 c2, .slice z3 n3 c3, .int .i64 ze, .int .i64 zk, .int .i64 zs] := Blk.alloc (heap_alloc_new W _) (.cells #[.int .u16 0, .int .u16 0, .int .u16 0, .int .i64 0, .int .i64 0] 30)
  have kr : Blk 30 ((W.alloc (.cells #[.slice z1 n1 c1, .slice z2 n2 c2, .slice z3 n3 c3, .int .i64 ze, .int .i64 zk, .int .i64 zs] 24)).alloc (.cells #[.int .u16 0, .int .u16 0, .int .u16 0, .int .i64 0, .int .i64 0] 30)) (W.alloc (.cells #[.slice z1 n1 c1, .slice z2 n2 c2, .slice z3 n3 c3, .int .i64 ze, .int .i64 zk, .int .i64 zs] 24)).heap.size [.int .u16 0, .int .u16 0, .int .u16 0, .int .i64 0, .int .i64 0] := heap_alloc_new _ _
  have hB0 := ((Below.refl W.heap.size W).alloc (Nat.le_refl _) (.cells #[.slice z1 n1 c1, .slice z2 n2 c2, .slice z3 n3 c3, .int .i64 ze, .int .i64 zk, .int .i64 zs] 24)).alloc (by simp) (.cells #[.int .u16 0, .int .u16 0, .int .u16 0, .int .i64 0, .int .i64 0] 30)
  go_enter Tryd.func11, Tryd.ntmps11
  go_upto_region 1 with (fail)
  have hs1 : ((W.alloc (.cells #[.slice z1 n1 c1, .slice z2 n2 c2, .slice z3 n3 c3, .int .i64 ze, .int .i64 zk, .int .i64 zs] 24)).alloc (.cells #[.int .u16 0, .int .u16 0, .int .u16 0, .int .i64 0, .int .i64 0] 30)).heap.size = W.heap.size + 2 := by simp
  generalize ((W.alloc (.cells #[.slice z1 n1 c1, .slice z2 n2 c2, .slice z3 n3 c3, .int .i64 ze, .int .i64 zk, .int .i64 zs] 24)).alloc (.cells #[.int .u16 0, .int .u16 0, .int .u16 0, .int .i64 0, .int .i64 0] 30)) = w1 at *
  have kr : Blk 30 w1 (W.heap.size + 1) [.int .u16 0, .int .u16 0, .int .u16 0, .int .i64 0, .int .i64 0] := by simpa using kr
  have BE1 := Lib.hid hB0
  have KR := Lib.hid kr
  have KZ := Lib.hid kz
  obtain ⟨z0, z01, z02, z03, z04, z05⟩ := blk6 kz
  clear hB0 kr kz
  go_wp2_with fail
  refine (CA.out _ BE1.out).mono ?_
  rintro e9 y1 ⟨rfl, hY1⟩
  have hq : Below W.heap.size W y1 := BE1.out.trans (hY1.mono BE1.out.size)
  have hq1 : W.heap.size + 2 ≤ y1.heap.size := by have := hY1.size; omega
  have kr1 := (KR.out.below (hY1.mono (Nat.le_refl _)) KR.out.lt).alloc (.cells #[.int .u16 (cv : Int), .int .u16 (cw : Int), .int .u16 (cl : Int), .int .i64 ce, .int .i64 ck] 30)
  have kz1 := (KZ.out.below hY1 KZ.out.lt).alloc (.cells #[.int .u16 (cv : Int), .int .u16 (cw : Int), .int .u16 (cl : Int), .int .i64 ce, .int .i64 ck] 30)
  have kc1 : Blk 30 (y1.alloc (.cells #[.int .u16 (cv : Int), .int .u16 (cw : Int), .int .u16 (cl : Int), .int .i64 ce, .int .i64 ck] 30)) y1.heap.size [.int .u16 (cv : Int), .int .u16 (cw : Int), .int .u16 (cl : Int), .int .i64 ce, .int .i64 ck] := heap_alloc_new y1 _
  have hb1 := hq.alloc hq.size (.cells #[.int .u16 (cv : Int), .int .u16 (cw : Int), .int .u16 (cl : Int), .int .i64 ce, .int .i64 ck] 30)
  clear z0 z01 z02 z03 z04 z05 hq hY1 CA
  go_upto_region 2 with (fail)
  generalize (y1.alloc (.cells #[.int .u16 (cv : Int), .int .u16 (cw : Int), .int .u16 (cl : Int), .int .i64 ce, .int .i64 ck] 30)) = y2 at *
  generalize y1.heap.size = gc at *
  have KR2 := Lib.hid kr1
  have KZ2 := Lib.hid kz1
  have KC2 := Lib.hid kc1
  have HB2 := Lib.hid hb1
  clear kr1 kz1 kc1 hb1 KR KZ
  have HS : Hid (∀ wq, Below y2.heap.size y2 wq → (wq.cell? ⟨gc, 0, none⟩ = some (.int .u16 (cv : Int)) ∧ wq.cell? ⟨gc, 1, none⟩ = some (.int .u16 (cw : Int)) ∧ wq.cell? ⟨gc, 2, none⟩ = some (.int .u16 (cl : Int)) ∧ wq.cell? ⟨gc, 3, none⟩ = some (.int .i64 ce) ∧ wq.cell? ⟨gc, 4, none⟩ = some (.int .i64 ck)) ∧ (wq.cell? ⟨W.heap.size, 0, none⟩ = some (.slice z1 n1 c1) ∧ wq.cell? ⟨W.heap.size, 1, none⟩ = some (.slice z2 n2 c2) ∧ wq.cell? ⟨W.heap.size, 2, none⟩ = some (.slice z3 n3 c3) ∧ wq.cell? ⟨W.heap.size, 3, none⟩ = some (.int .i64 ze) ∧ wq.cell? ⟨W.heap.size, 4, none⟩ = some (.int .i64 zk) ∧ wq.cell? ⟨W.heap.size, 5, none⟩ = some (.int .i64 zs))) := fun wq hq => ⟨blk5 (KC2.out.below hq KC2.out.lt), blk6 (KZ2.out.below hq KZ2.out.lt)⟩
  have q0 := Below.refl y2.heap.size y2
  obtain ⟨⟨x0, x1, x2, x3, x4⟩, z0, z01, z02, z03, z04, z05⟩ := HS.out _ q0
  by_cases he : e = 0
  · have h0 : e = 0 := he
    subst he
    cases mc
    · have h1 : (0 : Nat) = 0 := rfl
      go_wp2_with fail
      refine (CM.out _).mono ?_
      rintro e9 y3 ⟨rfl, hY3⟩
      have q1 := q0.trans (hY3.mono q0.size)
      clear h1
      have HE := Lib.hid (HQ2.out (by trivial) (by trivial))
      have HE1 := Lib.hid (congrArg Prod.fst HE.out)
      have HE2 := Lib.hid (congrArg Prod.snd HE.out)
      dsimp only at HE1 HE2
      clear HE HQ1 HQ2 HQ3 HQ4
      have KRf := Lib.hid (KR2.out.below q1 KR2.out.lt)
      have HBf := Lib.hid (HB2.out.trans (q1.mono HB2.out.size))
      obtain ⟨d0, d1, d2, d3, d4⟩ := blk5 KRf.out
      have df := fun i => KRf.out.frozen i
      go_wp2_with fail
      have sF := put5 (.int .u16 0) (.int .u16 0) (.int .u16 0) (.int .i64 0) (.int .i64 0) KRf.out
      have bF := below5 (g := W.heap.size + 1) (.int .u16 0) (.int .u16 0) (.int .u16 0) (.int .i64 0) (.int .i64 0) HBf.out (by first | omega | simp)
      generalize (((((y3.setCell ⟨W.heap.size + 1, 0, none⟩ (.int .u16 0)).setCell ⟨W.heap.size + 1, 1, none⟩ (.int .u16 0)).setCell ⟨W.heap.size + 1, 2, none⟩ (.int .u16 0)).setCell ⟨W.heap.size + 1, 3, none⟩ (.int .i64 0)).setCell ⟨W.heap.size + 1, 4, none⟩ (.int .i64 0)) = wf at *
      obtain ⟨e0, e1, e2, e3, e4⟩ := blk5 sF
      (try simp only [Exit.inBlock, Exit.then])
      refine bodyPost_ret (by simp [results, Tryd.results11, go_sem, e0, e1, e2, e3, e4]; try rfl) rfl ?_
      exact ⟨by rw [HE1.out, HE2.out] <;> rfl, bF⟩
    · go_wp2_with fail
      refine (CM.out _).mono ?_
      rintro e9 y3 ⟨rfl, hY3⟩
      have q1 := q0.trans (hY3.mono q0.size)
      clear x0 x1 x2 x3 x4 z0 z01 z02 z03 z04 z05
      obtain ⟨⟨x0, x1, x2, x3, x4⟩, z0, z01, z02, z03, z04, z05⟩ := HS.out _ q1
      go_wp2_with fail
      refine (CS.out _ (HB2.out.trans (q1.mono HB2.out.size))).mono ?_
      rintro e9 y4 ⟨rfl, hY4⟩
      have q2 := q1.trans (hY4.mono q1.size)
      clear x0 x1 x2 x3 x4 z0 z01 z02 z03 z04 z05
      obtain ⟨⟨x0, x1, x2, x3, x4⟩, z0, z01, z02, z03, z04, z05⟩ := HS.out _ q2
      cases sv1
      · have HE := Lib.hid (HQ3.out (by trivial) (by trivial) (by trivial))
        have HE1 := Lib.hid (congrArg Prod.fst HE.out)
        have HE2 := Lib.hid (congrArg Prod.snd HE.out)
        dsimp only at HE1 HE2
        clear HE HQ1 HQ2 HQ3 HQ4
        have KRf := Lib.hid (KR2.out.below q2 KR2.out.lt)
        have HBf := Lib.hid (HB2.out.trans (q2.mono HB2.out.size))
        obtain ⟨d0, d1, d2, d3, d4⟩ := blk5 KRf.out
        have df := fun i => KRf.out.frozen i
        go_wp2_with fail
        have sF := put5 (.int .u16 0) (.int .u16 0) (.int .u16 0) (.int .i64 0) (.int .i64 0) KRf.out
        have bF := below5 (g := W.heap.size + 1) (.int .u16 0) (.int .u16 0) (.int .u16 0) (.int .i64 0) (.int .i64 0) HBf.out (by first | omega | simp)
        generalize (((((y4.setCell ⟨W.heap.size + 1, 0, none⟩ (.int .u16 0)).setCell ⟨W.heap.size + 1, 1, none⟩ (.int .u16 0)).setCell ⟨W.heap.size + 1, 2, none⟩ (.int .u16 0)).setCell ⟨W.heap.size + 1, 3, none⟩ (.int .i64 0)).setCell ⟨W.heap.size + 1, 4, none⟩ (.int .i64 0)) = wf at *
        obtain ⟨e0, e1, e2, e3, e4⟩ := blk5 sF
        (try simp only [Exit.inBlock, Exit.then])
        refine bodyPost_ret (by simp [results, Tryd.results11, go_sem, e0, e1, e2, e3, e4]; try rfl) rfl ?_
        exact ⟨by rw [HE1.out, HE2.out] <;> rfl, bF⟩
      · have HE := Lib.hid (HQ4.out (by trivial) (by trivial) (by trivial))
        have HE1 := Lib.hid (congrArg Prod.fst HE.out)
        have HE2 := Lib.hid (congrArg Prod.snd HE.out)
        dsimp only at HE1 HE2
        clear HE HQ1 HQ2 HQ3 HQ4
        have KRf := Lib.hid (KR2.out.below q2 KR2.out.lt)
        have HBf := Lib.hid (HB2.out.trans (q2.mono HB2.out.size))
        obtain ⟨d0, d1, d2, d3, d4⟩ := blk5 KRf.out
        have df := fun i => KRf.out.frozen i
        go_wp2_with fail
        have sF := put5 (.int .u16 (cv : Int)) (.int .u16 (cw : Int)) (.int .u16 (cl : Int)) (.int .i64 ce) (.int .i64 ck) KRf.out
        have bF := below5 (g := W.heap.size + 1) (.int .u16 (cv : Int)) (.int .u16 (cw : Int)) (.int .u16 (cl : Int)) (.int .i64 ce) (.int .i64 ck) HBf.out (by first | omega | simp)
        generalize (((((y4.setCell ⟨W.heap.size + 1, 0, none⟩ (.int .u16 (cv : Int))).setCell ⟨W.heap.size + 1, 1, none⟩ (.int .u16 (cw : Int))).setCell ⟨W.heap.size + 1, 2, none⟩ (.int .u16 (cl : Int))).setCell ⟨W.heap.size + 1, 3, none⟩ (.int .i64 ce)).setCell ⟨W.heap.size + 1, 4, none⟩ (.int .i64 ck)) = wf at *
        obtain ⟨e0, e1, e2, e3, e4⟩ := blk5 sF
        (try simp only [Exit.inBlock, Exit.then])
        refine bodyPost_ret (by simp [results, Tryd.results11, go_sem, e0, e1, e2, e3, e4]; try rfl) rfl ?_
        exact ⟨by rw [HE1.out, HE2.out] <;> rfl, bF⟩
  · have hne : (e != 0) = true := by rw [bne_iff_ne]; exact he
    have HE := Lib.hid (HQ1.out he)
    have HE1 := Lib.hid (congrArg Prod.fst HE.out)
    have HE2 := Lib.hid (congrArg Prod.snd HE.out)
    dsimp only at HE1 HE2
    clear HE HQ1 HQ2 HQ3 HQ4
    have KRf := Lib.hid (KR2.out.below q0 KR2.out.lt)
    have HBf := Lib.hid (HB2.out.trans (q0.mono HB2.out.size))
    obtain ⟨d0, d1, d2, d3, d4⟩ := blk5 KRf.out
    have df := fun i => KRf.out.frozen i
    go_wp2_with fail
    have sF := put5 (.int .u16 0) (.int .u16 0) (.int .u16 0) (.int .i64 0) (.int .i64 0) KRf.out
    have bF := below5 (g := W.heap.size + 1) (.int .u16 0) (.int .u16 0) (.int .u16 0) (.int .i64 0) (.int .i64 0) HBf.out (by first | omega | simp)
    generalize (((((y2.setCell ⟨W.heap.size + 1, 0, none⟩ (.int .u16 0)).setCell ⟨W.heap.size + 1, 1, none⟩ (.int .u16 0)).setCell ⟨W.heap.size + 1, 2, none⟩ (.int .u16 0)).setCell ⟨W.heap.size + 1, 3, none⟩ (.int .i64 0)).setCell ⟨W.heap.size + 1, 4, none⟩ (.int .i64 0)) = wf at *
    obtain ⟨e0, e1, e2, e3, e4⟩ := blk5 sF
    (try simp only [Exit.inBlock, Exit.then])
    refine bodyPost_ret (by simp [results, Tryd.results11, go_sem, e0, e1, e2, e3, e4]; try rfl) rfl ?_
    exact ⟨by rw [HE1.out, HE2.out] <;> rfl, bF⟩
end Go.Proofs.YtfcljdpjjabhjaaDoor.zoni
