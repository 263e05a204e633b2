/- The landed zone: which zones may be, where replicas lie. Conditions: slices read as lists of ints; the library's table reads as its text lays it. -/
import Derived.Test.YtfcljdpjjabhjaaDoorZonB
import Derived.Test.YtfcljdpjjabhjaaDoorZonD
import Derived.Test.YtfcljdpjjabhjaaDoorZnR
namespace Go.Proofs.YtfcljdpjjabhjaaDoor.zoni
open Go Go.RowKit Go.Proofs.YtfcljdpjjabhjaaDoor.kit Go.Proofs.YtfcljdpjjabhjaaDoor.nums Go.Proofs.YtfcljdpjjabhjaaDoor.se Go.Proofs.YtfcljdpjjabhjaaDoor.cf Go.Proofs.YtfcljdpjjabhjaaDoor.zn Go.Proofs.YtfcljdpjjabhjaaDoor.ref9
set_option linter.unusedVariables false

theorem mayZone_any (a : ZnA) (z : ZnL) (w : World) (B : Nat) (h : RdZ w B a z) (hB : B ≤ w.heap.size) : Calls Tryd.prog 13 #[znV a z] w fun e w' => e = .returned (.bool (mayZ z)) ∧ Below w.heap.size w w' := by
  obtain ⟨h1, h2, h3, b1, b2, b3⟩ := h
  have CV := Lib.hid (fun w hR => mayCounts_any a.a1 a.n1 a.c1 z.v w B hR b1)
  have CW := Lib.hid (fun w hR => mayCounts_any a.a2 a.n2 a.c2 z.w w B hR b2)
  have CL := Lib.hid (fun w hR => mayCounts_any a.a3 a.n3 a.c3 z.l w B hR b3)
  have CE := Lib.hid (fun w => mayCount_any z.e w)
  have CK := Lib.hid (fun w => mayCount_any z.k w)
  have CS := Lib.hid (fun w => maySurvive_any z.s w)
  unfold mayZ
  unfold znV
  obtain ⟨z1, n1, c1, z2, n2, c2, z3, n3, c3⟩ := a
  obtain ⟨zv, zw, zl, ze, zk, zs⟩ := z
  dsimp only at *
  have k0 : Blk 24 (w.alloc (.cells #[.slice z1 n1 c1, .slice z2 n2 c2, .slice z3 n3 c3, .int .i64 ze, .int .i64 zk, .int .i64 zs] 24)) w.heap.size [.slice z1 n1 c1, .slice z2 n2 c2, .slice z3 n3 c3, .int .i64 ze, .int .i64 zk, .int .i64 zs] := heap_alloc_new w _
  have HB := Lib.hid ((Below.refl w.heap.size w).alloc (Nat.le_refl _) (.cells #[.slice z1 n1 c1, .slice z2 n2 c2, .slice z3 n3 c3, .int .i64 ze, .int .i64 zk, .int .i64 zs] 24))
  obtain ⟨x0, x1, x2, x3, x4, x5⟩ := blk6 k0
  have H1 := Lib.hid (h1.below (HB.out.mono hB))
  have H2 := Lib.hid (h2.below (HB.out.mono hB))
  have H3 := Lib.hid (h3.below (HB.out.mono hB))
  clear h1 h2 h3 k0 b1 b2 b3
  generalize mayL zv = m1 at *
  generalize mayL zw = m2 at *
  generalize mayL zl = m3 at *
  generalize mayN ze = m4 at *
  generalize mayN zk = m5 at *
  generalize mayS zs = m6 at *
  cases m1
  · go_enter Tryd.func13, Tryd.ntmps13
    go_upto_region 1 with (fail)
    generalize (w.alloc (.cells #[.slice z1 n1 c1, .slice z2 n2 c2, .slice z3 n3 c3, .int .i64 ze, .int .i64 zk, .int .i64 zs] 24)) = w1 at *
    go_wp2_with fail
    refine (CV.out _ H1.out).mono ?_
    rintro e y1 ⟨rfl, rfl⟩
    go_wp2_with fail
    go_ret
    exact ⟨ret_bool (by simp), HB.out⟩
  · cases m2
    · go_enter Tryd.func13, Tryd.ntmps13
      go_upto_region 1 with (fail)
      generalize (w.alloc (.cells #[.slice z1 n1 c1, .slice z2 n2 c2, .slice z3 n3 c3, .int .i64 ze, .int .i64 zk, .int .i64 zs] 24)) = w1 at *
      go_wp2_with fail
      refine (CV.out _ H1.out).mono ?_
      rintro e y1 ⟨rfl, rfl⟩
      go_wp2_with fail
      refine (CW.out _ H2.out).mono ?_
      rintro e y1 ⟨rfl, rfl⟩
      go_wp2_with fail
      go_ret
      exact ⟨ret_bool (by simp), HB.out⟩
    · cases m3
      · go_enter Tryd.func13, Tryd.ntmps13
        go_upto_region 1 with (fail)
        generalize (w.alloc (.cells #[.slice z1 n1 c1, .slice z2 n2 c2, .slice z3 n3 c3, .int .i64 ze, .int .i64 zk, .int .i64 zs] 24)) = w1 at *
        go_wp2_with fail
        refine (CV.out _ H1.out).mono ?_
        rintro e y1 ⟨rfl, rfl⟩
        go_wp2_with fail
        refine (CW.out _ H2.out).mono ?_
        rintro e y1 ⟨rfl, rfl⟩
        go_wp2_with fail
        refine (CL.out _ H3.out).mono ?_
        rintro e y1 ⟨rfl, rfl⟩
        go_wp2_with fail
        go_ret
        exact ⟨ret_bool (by simp), HB.out⟩
      · cases m4
        · go_enter Tryd.func13, Tryd.ntmps13
          go_upto_region 1 with (fail)
          generalize (w.alloc (.cells #[.slice z1 n1 c1, .slice z2 n2 c2, .slice z3 n3 c3, .int .i64 ze, .int .i64 zk, .int .i64 zs] 24)) = w1 at *
          go_wp2_with fail
          refine (CV.out _ H1.out).mono ?_
          rintro e y1 ⟨rfl, rfl⟩
          go_wp2_with fail
          refine (CW.out _ H2.out).mono ?_
          rintro e y1 ⟨rfl, rfl⟩
          go_wp2_with fail
          refine (CL.out _ H3.out).mono ?_
          rintro e y1 ⟨rfl, rfl⟩
          go_wp2_with fail
          refine (CE.out _).mono ?_
          rintro e y1 ⟨rfl, rfl⟩
          go_wp2_with fail
          go_ret
          exact ⟨ret_bool (by simp), HB.out⟩
        · cases m5
          · go_enter Tryd.func13, Tryd.ntmps13
            go_upto_region 1 with (fail)
            generalize (w.alloc (.cells #[.slice z1 n1 c1, .slice z2 n2 c2, .slice z3 n3 c3, .int .i64 ze, .int .i64 zk, .int .i64 zs] 24)) = w1 at *
            go_wp2_with fail
            refine (CV.out _ H1.out).mono ?_
            rintro e y1 ⟨rfl, rfl⟩
            go_wp2_with fail
            refine (CW.out _ H2.out).mono ?_
            rintro e y1 ⟨rfl, rfl⟩
            go_wp2_with fail
            refine (CL.out _ H3.out).mono ?_
            rintro e y1 ⟨rfl, rfl⟩
            go_wp2_with fail
            refine (CE.out _).mono ?_
            rintro e y1 ⟨rfl, rfl⟩
            go_wp2_with fail
            refine (CK.out _).mono ?_
            rintro e y1 ⟨rfl, rfl⟩
            go_wp2_with fail
            go_ret
            exact ⟨ret_bool (by simp), HB.out⟩
          · go_enter Tryd.func13, Tryd.ntmps13
            go_upto_region 1 with (fail)
            generalize (w.alloc (.cells #[.slice z1 n1 c1, .slice z2 n2 c2, .slice z3 n3 c3, .int .i64 ze, .int .i64 zk, .int .i64 zs] 24)) = w1 at *
            go_wp2_with fail
            refine (CV.out _ H1.out).mono ?_
            rintro e y1 ⟨rfl, rfl⟩
            go_wp2_with fail
            refine (CW.out _ H2.out).mono ?_
            rintro e y1 ⟨rfl, rfl⟩
            go_wp2_with fail
            refine (CL.out _ H3.out).mono ?_
            rintro e y1 ⟨rfl, rfl⟩
            go_wp2_with fail
            refine (CE.out _).mono ?_
            rintro e y1 ⟨rfl, rfl⟩
            go_wp2_with fail
            refine (CK.out _).mono ?_
            rintro e y1 ⟨rfl, rfl⟩
            go_wp2_with fail
            refine (CS.out _).mono ?_
            rintro e y1 ⟨rfl, rfl⟩
            go_wp2_with fail
            go_ret
            exact ⟨ret_bool (by simp), HB.out⟩
/-- What has been placed when i regions are done: the blocks of the call's own. -/
structure AlI (rs ld : List Int) (z : ZnL) (cz : List Value) (gz gr gc gt : Nat) (W : World) (s : StL) (wr : World) : Prop where
  kz : Blk 24 wr gz cz
  kr : Blk 30 wr gr [.int .u16 0, .int .u16 0, .int .u16 0, .int .i64 0, .int .i64 0]
  kc : Blk 30 wr gc [.int .u16 (s.v : Int), .int .u16 (s.w : Int), .int .u16 (s.l : Int), .int .i64 0, .int .i64 0]
  kt : Blk 28 wr gt (u16s (tabL rs rs.length))
  be : Below W.heap.size W wr
theorem AlI.on {rs ld : List Int} {z : ZnL} {cz : List Value} {gz gr gc gt : Nat} {W : World} {s : StL} {wr wq : World} (h : AlI rs ld z cz gz gr gc gt W s wr) (hb : Below wr.heap.size wr wq) : AlI rs ld z cz gz gr gc gt W s wq :=
  ⟨h.kz.below hb h.kz.lt, h.kr.below hb h.kr.lt, h.kc.below hb h.kc.lt, h.kt.below hb h.kt.lt, h.be.trans (hb.mono h.be.size)⟩
theorem AlI.turn {rs ld : List Int} {z : ZnL} {cz : List Value} {gz gr gc gt q : Nat} {W : World} {s : StL} {wr wq : World} (h : AlI rs ld z cz gz gr gc gt W s wr) (ht : Turn2 gc q wr wq)
    (hz : gz ≠ gc) (hr : gr ≠ gc) (hgt : gt ≠ gc) (h0 : W.heap.size ≤ gc) (h1 : W.heap.size ≤ q) (q1 : gz ≠ q) (q2 : gr ≠ q) (q3 : gt ≠ q) {s' : StL} (kc : Blk 30 wq gc [.int .u16 (s'.v : Int), .int .u16 (s'.w : Int), .int .u16 (s'.l : Int), .int .i64 0, .int .i64 0]) : AlI rs ld z cz gz gr gc gt W s' wq :=
  ⟨ht.blk h.kz hz q1, ht.blk h.kr hr q2, kc, ht.blk h.kt hgt q3, below_turned h.be ht h.be.size h0 h1⟩
set_option maxHeartbeats 1000000 in
theorem allot_any (A : Option Addr) (n cp : Nat) (rs : List Int) (a : ZnA) (z : ZnL) (A2 : Option Addr) (m2 cp2 : Nat) (ld : List Int) (W : World)
    (hT : TabW W) (hR : RdV W W.heap.size A n (i64s rs)) (hn : n ≤ 1099511627776) (hZ : RdZ W W.heap.size a z) (hL : RdV W W.heap.size A2 m2 (i64s ld)) (hm2 : m2 ≤ 1099511627776) :
    Calls Tryd.prog 9 #[.slice A n cp, znV a z, .slice A2 m2 cp2] W fun e w' => e = .returned (.tuple #[cfV (allotF rs z ld).1, .int .i64 (allotF rs z ld).2]) ∧ Below W.heap.size W w' := by
  have CR := Lib.hid (fun w (hb : Below W.heap.size W w) => mayRegions_any A n cp rs w W.heap.size (hR.below hb) hn)
  have CM := Lib.hid (fun w (hb : Below W.heap.size W w) => mayZone_any a z w W.heap.size (hZ.below hb) hb.size)
  have CB := Lib.hid (fun w (hb : Below W.heap.size W w) h9 hW => byRegion_any A n cp rs w W.heap.size (hR.below hb) hb.size h9 hW)
  have CA1 := Lib.hid (fun i w (hb : Below W.heap.size W w) hi => at_any a.a1 a.n1 a.c1 z.v i w W.heap.size (hZ.r1.below hb) hZ.l1 hi)
  have CA2 := Lib.hid (fun i w (hb : Below W.heap.size W w) hi => at_any a.a2 a.n2 a.c2 z.w i w W.heap.size (hZ.r2.below hb) hZ.l2 hi)
  have CA3 := Lib.hid (fun i w (hb : Below W.heap.size W w) hi => at_any a.a3 a.n3 a.c3 z.l i w W.heap.size (hZ.r3.below hb) hZ.l3 hi)
  have CH := Lib.hid (fun p o q cs c f count w hB hp hq hpq ho hI hcnt => choose_any p o q 30 28 cs c f count A2 m2 cp2 ld W w hT hB hp hq hpq ho hI hcnt hL hm2)
  have CC := Lib.hid (fun s w hs => confi.count_any s w hs)
  have CQ := Lib.hid (fun q n w hn => quorum_any q n w hn)
  have hl := rd_len hR
  obtain ⟨res, hres⟩ : ∃ res, allotF rs z ld = res := ⟨_, rfl⟩
  rw [hres]
  have HRES := Lib.hid hres
  clear hR hZ hL hT hres
  obtain ⟨r1, r2⟩ := res
  dsimp only
  have HCC : Hid (∀ i r, mayZ z = true → (z.lst i).getD r 0 = (z.cnt i r : Int) ∧ z.cnt i r ≤ 9) := Lib.hid (fun i r hz => cnt_cast hz i r)
  obtain ⟨z', hz'⟩ : ∃ z', z = z' := ⟨_, rfl⟩
  obtain ⟨a', ha'⟩ : ∃ a', a = a' := ⟨_, rfl⟩
  unfold znV at *
  rw [ha', hz']
  obtain ⟨z1, n1, c1, z2, n2, c2, z3, n3, c3⟩ := a'
  obtain ⟨zv, zw, zl, ze, zk, zs⟩ := z'
  dsimp only
  have HAE := Lib.hid ha'
  have HZE := Lib.hid hz'
  clear ha' hz'
  have kz0 : Blk 24 (W.alloc (.cells #[.slice z1 n1 c1, .slice z2 n2 c2, .slice z3 n3 c3, .int .i64 ze, .int .i64 zk, .int .i64 zs] 24)) W.heap.size [.slice z1 n1 c1, .slice z2 n2 c2, .slice z3 n3 c3, .int .i64 ze, .int .i64 zk, .int .i64 zs] := heap_alloc_new W _
  have kz := kz0.alloc (.cells #[.int .u16 0, .int .u16 0, .int .u16 0, .int .i64 0, .int .i64 0] 30)
  have kr : Blk 30 ((W.alloc (.cells #[.slice z1 n1 c1, .slice z2 n2 c2, .slice z3 n3 c3, .int .i64 ze, .int .i64 zk, .int .i64 zs] 24)).alloc (.cells #[.int .u16 0, .int .u16 0, .int .u16 0, .int .i64 0, .int .i64 0] 30)) (W.alloc (.cells #[.slice z1 n1 c1, .slice z2 n2 c2, .slice z3 n3 c3, .int .i64 ze, .int .i64 zk, .int .i64 zs] 24)).heap.size [.int .u16 0, .int .u16 0, .int .u16 0, .int .i64 0, .int .i64 0] := heap_alloc_new _ _
  have hB0 := ((Below.refl W.heap.size W).alloc (Nat.le_refl _) (.cells #[.slice z1 n1 c1, .slice z2 n2 c2, .slice z3 n3 c3, .int .i64 ze, .int .i64 zk, .int .i64 zs] 24)).alloc (by simp) (.cells #[.int .u16 0, .int .u16 0, .int .u16 0, .int .i64 0, .int .i64 0] 30)
  go_enter Tryd.func9, Tryd.ntmps9
  go_upto_region 1 with (fail)
  have hs1 : ((W.alloc (.cells #[.slice z1 n1 c1, .slice z2 n2 c2, .slice z3 n3 c3, .int .i64 ze, .int .i64 zk, .int .i64 zs] 24)).alloc (.cells #[.int .u16 0, .int .u16 0, .int .u16 0, .int .i64 0, .int .i64 0] 30)).heap.size = W.heap.size + 2 := by simp
  generalize ((W.alloc (.cells #[.slice z1 n1 c1, .slice z2 n2 c2, .slice z3 n3 c3, .int .i64 ze, .int .i64 zk, .int .i64 zs] 24)).alloc (.cells #[.int .u16 0, .int .u16 0, .int .u16 0, .int .i64 0, .int .i64 0] 30)) = w1 at *
  have kr : Blk 30 w1 (W.heap.size + 1) [.int .u16 0, .int .u16 0, .int .u16 0, .int .i64 0, .int .i64 0] := by simpa using kr
  clear kz0
  have BE1 := Lib.hid hB0
  have KR := Lib.hid kr
  have KZ := Lib.hid kz
  clear hB0
  cases hm : mayR rs
  · have HE := Lib.hid (HRES.out.symm.trans (allot_arg (by rw [hm]; rfl)))
    have HE1 := Lib.hid (congrArg Prod.fst HE.out)
    have HE2 := Lib.hid (congrArg Prod.snd HE.out)
    dsimp only at HE1 HE2
    rw [hm] at CR
    obtain ⟨x0, x1, x2, x3, x4⟩ := blk5 kr
    have df := fun i => kr.frozen i
    clear kz kr HE
    go_wp2_with fail
    refine (CR.out _ BE1.out).mono ?_
    rintro e y1 ⟨rfl, rfl⟩
    go_wp2_with fail
    have sF := put5 (.int .u16 0) (.int .u16 0) (.int .u16 0) (.int .i64 0) (.int .i64 0) KR.out
    have bF := below5 (g := W.heap.size + 1) (.int .u16 0) (.int .u16 0) (.int .u16 0) (.int .i64 0) (.int .i64 0) BE1.out (by first | omega | simp)
    generalize (((((w1.setCell ⟨W.heap.size + 1, 0, none⟩ (.int .u16 0)).setCell ⟨W.heap.size + 1, 1, none⟩ (.int .u16 0)).setCell ⟨W.heap.size + 1, 2, none⟩ (.int .u16 0)).setCell ⟨W.heap.size + 1, 3, none⟩ (.int .i64 0)).setCell ⟨W.heap.size + 1, 4, none⟩ (.int .i64 0)) = wf at *
    obtain ⟨e0, e1, e2, e3, e4⟩ := blk5 sF
    (try simp only [Exit.inBlock, Exit.then])
    refine bodyPost_ret (by simp [results, Tryd.results9, go_sem, e0, e1, e2, e3, e4]; try rfl) rfl ?_
    exact ⟨by rw [HE1.out, HE2.out]; rfl, bF⟩
  · rw [hm] at CR
    obtain ⟨hn1, hn9, hW⟩ := mayR_len hm
    rw [hl] at hn1 hn9
    have cM := Lib.hid (CM.out w1 BE1.out)
    rw [HAE.out, HZE.out] at cM
    dsimp only at cM
    cases hv : mayZ z
    · have HE := Lib.hid (HRES.out.symm.trans (allot_arg (by rw [hm, hv]; rfl)))
      have HE1 := Lib.hid (congrArg Prod.fst HE.out)
      have HE2 := Lib.hid (congrArg Prod.snd HE.out)
      dsimp only at HE1 HE2
      rw [HZE.out] at hv
      rw [hv] at cM
      obtain ⟨z0, z01, z02, z03, z04, z05⟩ := blk6 kz
      clear kz kr HE CM
      go_wp2_with fail
      refine (CR.out _ BE1.out).mono ?_
      rintro e y1 ⟨rfl, rfl⟩
      go_wp2_with fail
      refine cM.out.mono ?_
      rintro e y1 ⟨rfl, hY1⟩
      have kr1 := KR.out.below hY1 KR.out.lt
      have hb1 := BE1.out.trans (hY1.mono BE1.out.size)
      obtain ⟨x0, x1, x2, x3, x4⟩ := blk5 kr1
      have df := fun i => kr1.frozen i
      have KR1 := Lib.hid kr1
      have HB1 := Lib.hid hb1
      clear kr1 hb1
      go_wp2_with fail
      have sF := put5 (.int .u16 0) (.int .u16 0) (.int .u16 0) (.int .i64 0) (.int .i64 0) KR1.out
      have bF := below5 (g := W.heap.size + 1) (.int .u16 0) (.int .u16 0) (.int .u16 0) (.int .i64 0) (.int .i64 0) HB1.out (by first | omega | simp)
      generalize (((((y1.setCell ⟨W.heap.size + 1, 0, none⟩ (.int .u16 0)).setCell ⟨W.heap.size + 1, 1, none⟩ (.int .u16 0)).setCell ⟨W.heap.size + 1, 2, none⟩ (.int .u16 0)).setCell ⟨W.heap.size + 1, 3, none⟩ (.int .i64 0)).setCell ⟨W.heap.size + 1, 4, none⟩ (.int .i64 0)) = wf at *
      obtain ⟨e0, e1, e2, e3, e4⟩ := blk5 sF
      (try simp only [Exit.inBlock, Exit.then])
      refine bodyPost_ret (by simp [results, Tryd.results9, go_sem, e0, e1, e2, e3, e4]; try rfl) rfl ?_
      exact ⟨by rw [HE1.out, HE2.out]; rfl, bF⟩
    · have hv' := hv
      rw [HZE.out] at hv
      rw [hv] at cM
      obtain ⟨z0, z01, z02, z03, z04, z05⟩ := blk6 kz
      clear kz kr CM
      go_wp2_with fail
      refine (CR.out _ BE1.out).mono ?_
      rintro e y1 ⟨rfl, rfl⟩
      go_wp2_with fail
      refine cM.out.mono ?_
      rintro e y1 ⟨rfl, hY1⟩
      have kr1 := (KR.out.below hY1 KR.out.lt).alloc (.cells #[.int .u16 0, .int .u16 0, .int .u16 0, .int .i64 0, .int .i64 0] 30)
      have kz1 := (KZ.out.below hY1 KZ.out.lt).alloc (.cells #[.int .u16 0, .int .u16 0, .int .u16 0, .int .i64 0, .int .i64 0] 30)
      have kc1 : Blk 30 (y1.alloc (.cells #[.int .u16 0, .int .u16 0, .int .u16 0, .int .i64 0, .int .i64 0] 30)) y1.heap.size [.int .u16 0, .int .u16 0, .int .u16 0, .int .i64 0, .int .i64 0] := heap_alloc_new y1 _
      have hb1 := (BE1.out.trans (hY1.mono BE1.out.size)).alloc (BE1.out.trans (hY1.mono BE1.out.size)).size (.cells #[.int .u16 0, .int .u16 0, .int .u16 0, .int .i64 0, .int .i64 0] 30)
      have hsy : W.heap.size + 2 ≤ y1.heap.size := by have := hY1.size; omega
      clear z0 z01 z02 z03 z04 z05 KR KZ cM CR
      go_upto_region 4 with (fail)
      have hsc : (y1.alloc (.cells #[.int .u16 0, .int .u16 0, .int .u16 0, .int .i64 0, .int .i64 0] 30)).heap.size = y1.heap.size + 1 := by simp
      generalize (y1.alloc (.cells #[.int .u16 0, .int .u16 0, .int .u16 0, .int .i64 0, .int .i64 0] 30)) = wc at *
      generalize y1.heap.size = gc at *
      go_wp2_with fail
      have cB := CB.out wc hb1 hn9 hW
      unfold IsTab at cB
      refine cB.mono ?_
      rintro e y2 ⟨rfl, kt2, hY2⟩
      clear cB CB
      have HI0 : AlI rs ld z [.slice z1 n1 c1, .slice z2 n2 c2, .slice z3 n3 c3, .int .i64 ze, .int .i64 zk, .int .i64 zs] W.heap.size (W.heap.size + 1) gc wc.heap.size W zeroS y2 := ⟨kz1.below hY2 kz1.lt, kr1.below hY2 kr1.lt, kc1.below hY2 kc1.lt, kt2, hb1.trans (hY2.mono hb1.size)⟩
      have HI0 := Lib.hid HI0
      clear kz1 kr1 kc1 kt2 hb1 hY1 hY2
      rw [hsc] at HI0
      rw [hsc]
      clear hsc
      go_wp2_with fail
      go_loopw [25] (fun iv wr => ∃ (i : Nat) (s : StL), i ≤ 4 ∧ iv = .int .i64 (i : Int) ∧ Hid (runF rs ld (preF z i) = some s) ∧ Hid (AlI rs ld z [.slice z1 n1 c1, .slice z2 n2 c2, .slice z3 n3 c3, .int .i64 ze, .int .i64 zk, .int .i64 zs] W.heap.size (W.heap.size + 1) gc (gc + 1) W s wr)) (fun iv _ => 4 - (intOf iv).toNat)
      case atStart => exact ⟨0, zeroS, by omega, rfl, rfl, HI0.out⟩
      case round =>
        obtain ⟨i, s, hi, rfl, HRUN, HI⟩ := hrel
        by_cases hlt : i < 4
        · have h9 : rs.length ≤ 9 := by omega
          have hct : wr.cell? ⟨gc + 1, i, none⟩ = some (.int .u16 ((regF rs (i : Int) : Nat) : Int)) := by rw [HI.out.kt.cell i]; simp only [u16s, List.getElem?_map, tab_get rs rs.length i hlt]; rfl
          have hmf := reg_may h9 (i : Int)
          have hfl := may_lt hmf
          have HFREE := Lib.hid (reg_free h9 HRUN.out)
          generalize hf : regF rs (i : Int) = f at *
          go_upto_region 7 with (fail)
          have ha0 := HI.out.on ((Below.refl wr.heap.size wr).alloc (Nat.le_refl _) (.cells #[.int .u16 (f : Int)] 28))
          have kq0 : Blk 28 (wr.alloc (.cells #[.int .u16 (f : Int)] 28)) wr.heap.size [.int .u16 (f : Int)] := heap_alloc_new wr _
          have hq2 : gc + 1 < wr.heap.size := HI.out.kt.lt
          generalize (wr.alloc (.cells #[.int .u16 (f : Int)] 28)) = v0 at *
          generalize wr.heap.size = q at *
          obtain ⟨s0, hs0⟩ : ∃ s0, s = s0 := ⟨_, rfl⟩
          subst hs0
          have HA0 := Lib.hid ha0
          have KQ0 : Hid (Blk 28 v0 q [.int .u16 ((anF f s.u : Nat) : Int)]) := by show Blk _ _ _ _; rw [HFREE.out]; exact kq0
          have HR0 : Hid (runF rs ld (preF z i ++ regP z i 0) = some s) := by show _ = _; rw [show regP z i 0 = [] from rfl, List.append_nil]; exact HRUN.out
          have h9' := h9
          clear kq0 ha0 hct HFREE hmf HI HRUN HI0
          obtain ⟨z0, z01, z02, z03, z04, z05⟩ := blk6 HA0.out.kz
          have cnt0 := HCC.out 0 i hv'
          have dk := CA1.out i v0 HA0.out.be (by omega)
          rw [HAE.out, show z.v.getD i 0 = ((z.cnt 0 i : Nat) : Int) from cnt0.1] at dk
          dsimp only at dk
          have D0 := Lib.hid dk
          clear dk
          have hlt0 := may_lt (run_may h9 _ _ HR0.out).1
          have hch := CH.out gc 0 q [.int .u16 (s.v : Int), .int .u16 (s.w : Int), .int .u16 (s.l : Int), .int .i64 0, .int .i64 0] s.v (anF f s.u) (z.cnt 0 i) v0 HA0.out.be (by omega) (by omega) (by omega) (by simp) ⟨HA0.out.kc, KQ0.out, by omega, by rw [← hf]; exact anreg_may h9 _ _, Turn2.refl _ _ _⟩ cnt0.2
          have hrun := choose_run (ld := ld) (r := i) h9 (show 0 < 3 by omega) HR0.out (z.cnt 0 i)
          rw [hf] at hrun
          clear hlt0
          go_wp2_with fail
          refine D0.out.mono ?_
          rintro e y ⟨rfl, rfl⟩
          go_wp2_with fail
          rcases hrun with hn | ⟨s1, hn⟩
          · have HX : chooseTo ld s.v (anF f s.u) (z.cnt 0 i) = none := hn.2
            have HE := Lib.hid (HRES.out.symm.trans (allot_full hm hv' (fail_at hlt (show 0 < 3 by omega) (Nat.le_refl _) hn.1)))
            have HE1 := Lib.hid (congrArg Prod.fst HE.out)
            have HE2 := Lib.hid (congrArg Prod.snd HE.out)
            dsimp only at HE1 HE2
            rw [HX] at hch
            simp only [Option.isSome_none] at hch
            refine hch.mono ?_
            rintro e y ⟨rfl, hT, _⟩
            clear hch HX hn HE
            have KRy := Lib.hid (hT.blk HA0.out.kr (by omega) (by omega))
            have HBy := Lib.hid (below_turned HA0.out.be hT HA0.out.be.size (by omega) (by omega))
            obtain ⟨x0, x1, x2, x3, x4⟩ := blk5 KRy.out
            have df := fun i => KRy.out.frozen i
            clear hT
            go_wp2_with fail
            have sF := put5 (.int .u16 0) (.int .u16 0) (.int .u16 0) (.int .i64 0) (.int .i64 0) KRy.out
            have bF := below5 (g := W.heap.size + 1) (.int .u16 0) (.int .u16 0) (.int .u16 0) (.int .i64 0) (.int .i64 0) HBy.out (by first | omega | simp)
            generalize (((((y.setCell ⟨W.heap.size + 1, 0, none⟩ (.int .u16 0)).setCell ⟨W.heap.size + 1, 1, none⟩ (.int .u16 0)).setCell ⟨W.heap.size + 1, 2, none⟩ (.int .u16 0)).setCell ⟨W.heap.size + 1, 3, none⟩ (.int .i64 0)).setCell ⟨W.heap.size + 1, 4, none⟩ (.int .i64 0)) = wf at *
            obtain ⟨e0, e1, e2, e3, e4⟩ := blk5 sF
            (try simp only [Exit.inBlock, Exit.then])
            refine bodyPost_ret (by simp [results, Tryd.results9, go_sem, e0, e1, e2, e3, e4]; try rfl) rfl ?_
            exact ⟨by rw [HE1.out, HE2.out]; rfl, bF⟩
          · have HX : chooseTo ld s.v (anF f s.u) (z.cnt 0 i) = some (s1.v, anF f s1.u) := hn.2.1
            rw [HX] at hch
            simp only [Option.isSome_some] at hch
            refine hch.mono ?_
            rintro e v1 ⟨rfl, hT, hX⟩
            clear hch
            obtain ⟨kc, kq, _, _, _⟩ := hX _ rfl
            dsimp only at kc kq
            have e1 : s1.w = s.w := hn.2.2 1 (by omega) (by omega)
            have e2 : s1.l = s.l := hn.2.2 2 (by omega) (by omega)
            have kc2 : Blk 30 v1 gc [.int .u16 (s1.v : Int), .int .u16 (s1.w : Int), .int .u16 (s1.l : Int), .int .i64 0, .int .i64 0] := by rw [e1, e2]; exact kc
            have HA1 := Lib.hid (HA0.out.turn hT (by omega) (by omega) (by omega) (by omega) (by omega) (by omega) (by omega) (by omega) kc2)
            have KQ1 := Lib.hid kq
            have HR1 : Hid (runF rs ld (preF z i ++ regP z i 1) = some s1) := by show _ = _; rw [reg_succ, ← List.append_assoc]; exact hn.1
            clear z0 z01 z02 z03 z04 z05 HX hn hX kc kq kc2 hT e1 e2 HA0 KQ0 HR0 D0
            obtain ⟨z0, z01, z02, z03, z04, z05⟩ := blk6 HA1.out.kz
            have cnt1 := HCC.out 1 i hv'
            have dk := CA2.out i v1 HA1.out.be (by omega)
            rw [HAE.out, show z.w.getD i 0 = ((z.cnt 1 i : Nat) : Int) from cnt1.1] at dk
            dsimp only at dk
            have D1 := Lib.hid dk
            clear dk
            have hlt1 := may_lt (run_may h9 _ _ HR1.out).2.1
            have hch := CH.out gc 1 q [.int .u16 (s1.v : Int), .int .u16 (s1.w : Int), .int .u16 (s1.l : Int), .int .i64 0, .int .i64 0] s1.w (anF f s1.u) (z.cnt 1 i) v1 HA1.out.be (by omega) (by omega) (by omega) (by simp) ⟨HA1.out.kc, KQ1.out, by omega, by rw [← hf]; exact anreg_may h9 _ _, Turn2.refl _ _ _⟩ cnt1.2
            have hrun := choose_run (ld := ld) (r := i) h9 (show 1 < 3 by omega) HR1.out (z.cnt 1 i)
            rw [hf] at hrun
            clear hlt1
            go_wp2_with fail
            refine D1.out.mono ?_
            rintro e y ⟨rfl, rfl⟩
            go_wp2_with fail
            rcases hrun with hn | ⟨s2, hn⟩
            · have HX : chooseTo ld s1.w (anF f s1.u) (z.cnt 1 i) = none := hn.2
              have HE := Lib.hid (HRES.out.symm.trans (allot_full hm hv' (fail_at hlt (show 1 < 3 by omega) (Nat.le_refl _) hn.1)))
              have HE1 := Lib.hid (congrArg Prod.fst HE.out)
              have HE2 := Lib.hid (congrArg Prod.snd HE.out)
              dsimp only at HE1 HE2
              rw [HX] at hch
              simp only [Option.isSome_none] at hch
              refine hch.mono ?_
              rintro e y ⟨rfl, hT, _⟩
              clear hch HX hn HE
              have KRy := Lib.hid (hT.blk HA1.out.kr (by omega) (by omega))
              have HBy := Lib.hid (below_turned HA1.out.be hT HA1.out.be.size (by omega) (by omega))
              obtain ⟨x0, x1, x2, x3, x4⟩ := blk5 KRy.out
              have df := fun i => KRy.out.frozen i
              clear hT
              go_wp2_with fail
              have sF := put5 (.int .u16 0) (.int .u16 0) (.int .u16 0) (.int .i64 0) (.int .i64 0) KRy.out
              have bF := below5 (g := W.heap.size + 1) (.int .u16 0) (.int .u16 0) (.int .u16 0) (.int .i64 0) (.int .i64 0) HBy.out (by first | omega | simp)
              generalize (((((y.setCell ⟨W.heap.size + 1, 0, none⟩ (.int .u16 0)).setCell ⟨W.heap.size + 1, 1, none⟩ (.int .u16 0)).setCell ⟨W.heap.size + 1, 2, none⟩ (.int .u16 0)).setCell ⟨W.heap.size + 1, 3, none⟩ (.int .i64 0)).setCell ⟨W.heap.size + 1, 4, none⟩ (.int .i64 0)) = wf at *
              obtain ⟨e0, e1, e2, e3, e4⟩ := blk5 sF
              (try simp only [Exit.inBlock, Exit.then])
              refine bodyPost_ret (by simp [results, Tryd.results9, go_sem, e0, e1, e2, e3, e4]; try rfl) rfl ?_
              exact ⟨by rw [HE1.out, HE2.out]; rfl, bF⟩
            · have HX : chooseTo ld s1.w (anF f s1.u) (z.cnt 1 i) = some (s2.w, anF f s2.u) := hn.2.1
              rw [HX] at hch
              simp only [Option.isSome_some] at hch
              refine hch.mono ?_
              rintro e v2 ⟨rfl, hT, hX⟩
              clear hch
              obtain ⟨kc, kq, _, _, _⟩ := hX _ rfl
              dsimp only at kc kq
              have e0 : s2.v = s1.v := hn.2.2 0 (by omega) (by omega)
              have e2 : s2.l = s1.l := hn.2.2 2 (by omega) (by omega)
              have kc2 : Blk 30 v2 gc [.int .u16 (s2.v : Int), .int .u16 (s2.w : Int), .int .u16 (s2.l : Int), .int .i64 0, .int .i64 0] := by rw [e0, e2]; exact kc
              have HA2 := Lib.hid (HA1.out.turn hT (by omega) (by omega) (by omega) (by omega) (by omega) (by omega) (by omega) (by omega) kc2)
              have KQ2 := Lib.hid kq
              have HR2 : Hid (runF rs ld (preF z i ++ regP z i 2) = some s2) := by show _ = _; rw [reg_succ, ← List.append_assoc]; exact hn.1
              clear z0 z01 z02 z03 z04 z05 HX hn hX kc kq kc2 hT e0 e2 HA1 KQ1 HR1 D1
              obtain ⟨z0, z01, z02, z03, z04, z05⟩ := blk6 HA2.out.kz
              have cnt2 := HCC.out 2 i hv'
              have dk := CA3.out i v2 HA2.out.be (by omega)
              rw [HAE.out, show z.l.getD i 0 = ((z.cnt 2 i : Nat) : Int) from cnt2.1] at dk
              dsimp only at dk
              have D2 := Lib.hid dk
              clear dk
              have hlt2 := may_lt (run_may h9 _ _ HR2.out).2.2.1
              have hch := CH.out gc 2 q [.int .u16 (s2.v : Int), .int .u16 (s2.w : Int), .int .u16 (s2.l : Int), .int .i64 0, .int .i64 0] s2.l (anF f s2.u) (z.cnt 2 i) v2 HA2.out.be (by omega) (by omega) (by omega) (by simp) ⟨HA2.out.kc, KQ2.out, by omega, by rw [← hf]; exact anreg_may h9 _ _, Turn2.refl _ _ _⟩ cnt2.2
              have hrun := choose_run (ld := ld) (r := i) h9 (show 2 < 3 by omega) HR2.out (z.cnt 2 i)
              rw [hf] at hrun
              clear hlt2
              go_wp2_with fail
              refine D2.out.mono ?_
              rintro e y ⟨rfl, rfl⟩
              go_wp2_with fail
              rcases hrun with hn | ⟨s3, hn⟩
              · have HX : chooseTo ld s2.l (anF f s2.u) (z.cnt 2 i) = none := hn.2
                have HE := Lib.hid (HRES.out.symm.trans (allot_full hm hv' (fail_at hlt (show 2 < 3 by omega) (Nat.le_refl _) hn.1)))
                have HE1 := Lib.hid (congrArg Prod.fst HE.out)
                have HE2 := Lib.hid (congrArg Prod.snd HE.out)
                dsimp only at HE1 HE2
                rw [HX] at hch
                simp only [Option.isSome_none] at hch
                refine hch.mono ?_
                rintro e y ⟨rfl, hT, _⟩
                clear hch HX hn HE
                have KRy := Lib.hid (hT.blk HA2.out.kr (by omega) (by omega))
                have HBy := Lib.hid (below_turned HA2.out.be hT HA2.out.be.size (by omega) (by omega))
                obtain ⟨x0, x1, x2, x3, x4⟩ := blk5 KRy.out
                have df := fun i => KRy.out.frozen i
                clear hT
                go_wp2_with fail
                have sF := put5 (.int .u16 0) (.int .u16 0) (.int .u16 0) (.int .i64 0) (.int .i64 0) KRy.out
                have bF := below5 (g := W.heap.size + 1) (.int .u16 0) (.int .u16 0) (.int .u16 0) (.int .i64 0) (.int .i64 0) HBy.out (by first | omega | simp)
                generalize (((((y.setCell ⟨W.heap.size + 1, 0, none⟩ (.int .u16 0)).setCell ⟨W.heap.size + 1, 1, none⟩ (.int .u16 0)).setCell ⟨W.heap.size + 1, 2, none⟩ (.int .u16 0)).setCell ⟨W.heap.size + 1, 3, none⟩ (.int .i64 0)).setCell ⟨W.heap.size + 1, 4, none⟩ (.int .i64 0)) = wf at *
                obtain ⟨e0, e1, e2, e3, e4⟩ := blk5 sF
                (try simp only [Exit.inBlock, Exit.then])
                refine bodyPost_ret (by simp [results, Tryd.results9, go_sem, e0, e1, e2, e3, e4]; try rfl) rfl ?_
                exact ⟨by rw [HE1.out, HE2.out]; rfl, bF⟩
              · have HX : chooseTo ld s2.l (anF f s2.u) (z.cnt 2 i) = some (s3.l, anF f s3.u) := hn.2.1
                rw [HX] at hch
                simp only [Option.isSome_some] at hch
                refine hch.mono ?_
                rintro e v3 ⟨rfl, hT, hX⟩
                clear hch
                obtain ⟨kc, kq, _, _, _⟩ := hX _ rfl
                dsimp only at kc kq
                have e0 : s3.v = s2.v := hn.2.2 0 (by omega) (by omega)
                have e1 : s3.w = s2.w := hn.2.2 1 (by omega) (by omega)
                have kc2 : Blk 30 v3 gc [.int .u16 (s3.v : Int), .int .u16 (s3.w : Int), .int .u16 (s3.l : Int), .int .i64 0, .int .i64 0] := by rw [e0, e1]; exact kc
                have HA3 := Lib.hid (HA2.out.turn hT (by omega) (by omega) (by omega) (by omega) (by omega) (by omega) (by omega) (by omega) kc2)
                have KQ3 := Lib.hid kq
                have HR3 : Hid (runF rs ld (preF z i ++ regP z i 3) = some s3) := by show _ = _; rw [reg_succ, ← List.append_assoc]; exact hn.1
                clear z0 z01 z02 z03 z04 z05 HX hn hX kc kq kc2 hT e0 e1 HA2 KQ2 HR2 D2
                go_wp2_with fail
                go_round
                case rel => exact ⟨i + 1, s3, by omega, by go_num, by show _ = _; rw [pre_succ]; exact HR3.out, HA3.out⟩
                case measure => simp [intOf]; omega
        · obtain rfl : i = 4 := by omega
          have h9 : rs.length ≤ 9 := by omega
          have HE := Lib.hid (HRES.out.symm.trans (allot_fine hm hv' HRUN.out))
          have HE1 := Lib.hid (congrArg Prod.fst HE.out)
          have HE2 := Lib.hid (congrArg Prod.snd HE.out)
          dsimp only at HE1 HE2
          have hmay := run_may h9 _ _ HRUN.out
          have l1 := may_lt hmay.1
          have l2 := may_lt hmay.2.1
          have l3 := may_lt hmay.2.2.1
          have HO := bits_or_u16_nat s.v s.w (by omega) (by omega)
          have hor : s.v ||| s.w < 65536 := Nat.or_lt_two_pow (n := 16) (by omega) (by omega)
          have cC := Lib.hid (CC.out (s.v ||| s.w) wr hor)
          have c9 := cntF_le (s.v ||| s.w)
          have E1 : Hid (confOf z s = ⟨s.v, s.w, s.l, quoF ze (cntF (s.v ||| s.w)), quoF zk (cntF (s.v ||| s.w))⟩) := by show _ = _; rw [HZE.out]; rfl
          have cE := Lib.hid (fun w => CQ.out ze (cntF (s.v ||| s.w)) w c9)
          have cK := Lib.hid (fun w => CQ.out zk (cntF (s.v ||| s.w)) w c9)
          generalize quoF ze (cntF (s.v ||| s.w)) = qe at *
          generalize quoF zk (cntF (s.v ||| s.w)) = qk at *
          generalize cntF (s.v ||| s.w) = m at *
          generalize s.v ||| s.w = so at *
          obtain ⟨x0, x1, x2, x3, x4⟩ := blk5 HI.out.kc
          obtain ⟨z0, z01, z02, z03, z04, z05⟩ := blk6 HI.out.kz
          clear CA1 CA2 CA3 CH CC CQ HE HRUN HI0 HCC hmay
          go_wp2_with fail
          refine cC.out.mono ?_
          rintro e y5 ⟨rfl, hY5⟩
          have HI5 := Lib.hid (HI.out.on hY5)
          clear x0 x1 x2 x3 x4 z0 z01 z02 z03 z04 z05
          obtain ⟨x0, x1, x2, x3, x4⟩ := blk5 HI5.out.kc
          obtain ⟨z0, z01, z02, z03, z04, z05⟩ := blk6 HI5.out.kz
          have f0 := fun i => HI5.out.kc.frozen i
          go_upto_region 12 with (fail)
          have KZ := HI5.out.kz.drew
          have KC := HI5.out.kc
          have KR := HI5.out.kr
          have HBd := HI5.out.be
          refine wp_region_held_drew (S := fun wq => wq.cell? ⟨W.heap.size, 3, none⟩ = some (.int .i64 ze) ∧ wq.cell? ⟨W.heap.size, 4, none⟩ = some (.int .i64 zk)) (by kernel_rfl) ⟨KZ.cell 3, KZ.cell 4⟩ (fun hHeld => ?_)
          refine tk 0 { dst := some 65, op := .fieldAddr 24 (.tmp 4) 3, type := 0, pos := "zone.go:36", after := #[], guard := none } _ ?_
          try simp only [Act.put, List.setIfInBounds_toArray, List.set_cons_zero, List.set_cons_succ]
          refine tk 1 { dst := some 66, op := .load 3 (.tmp 65), type := 3, pos := "zone.go:36", after := #[{ on := 0, ground := .data }], guard := none } _ ?_
          try simp only [Act.put, List.setIfInBounds_toArray, List.set_cons_zero, List.set_cons_succ]
          refine tk 2 { dst := some 67, op := .move (.tmp 12), type := 3, pos := "zone.go:36", after := #[], guard := none } _ ?_
          try simp only [Act.put, List.setIfInBounds_toArray, List.set_cons_zero, List.set_cons_succ]
          refine tk 4 { dst := some 69, op := .fieldAddr 24 (.tmp 4) 4, type := 0, pos := "zone.go:36", after := #[], guard := none } _ ?_
          try simp only [Act.put, List.setIfInBounds_toArray, List.set_cons_zero, List.set_cons_succ]
          refine tk 5 { dst := some 70, op := .load 3 (.tmp 69), type := 3, pos := "zone.go:36", after := #[{ on := 4, ground := .data }], guard := none } _ ?_
          try simp only [Act.put, List.setIfInBounds_toArray, List.set_cons_zero, List.set_cons_succ]
          refine tk 6 { dst := some 71, op := .move (.tmp 12), type := 3, pos := "zone.go:36", after := #[], guard := none } _ ?_
          try simp only [Act.put, List.setIfInBounds_toArray, List.set_cons_zero, List.set_cons_succ]
          refine wpAnyH_ready (rs := [3]) (by kernel_rfl) (by simp) ?_
          refine AllReadyH.cons (o := { dst := some 68, op := .call { callee := .value (.func 29), args := #[.tmp 66, .tmp 67], argTypes := #[3, 3] }, type := 3, pos := "zone.go:36", after := #[{ on := 1, ground := .data }, { on := 2, ground := .data }], guard := none }) rfl (fun KQ hKQ => ?_) AllReadyH.nil
          go_simp
          refine (cE.out _).mono ?_
          rintro e y6 ⟨rfl, rfl⟩
          go_wp2_with fail
          refine hKQ.out _ _ ?s_3 (fun hHeld3 => ?_)
          case s_3 => exact ⟨KZ.cell 3, KZ.cell 4⟩
          clear hKQ KQ
          try simp only [Act.put, List.setIfInBounds_toArray, List.set_cons_zero, List.set_cons_succ]
          refine wpAnyH_ready (rs := [7]) (by kernel_rfl) (by simp) ?_
          refine AllReadyH.cons (o := { dst := some 72, op := .call { callee := .value (.func 29), args := #[.tmp 70, .tmp 71], argTypes := #[3, 3] }, type := 3, pos := "zone.go:36", after := #[{ on := 5, ground := .data }, { on := 6, ground := .data }, { on := 3, ground := .chain }], guard := none }) rfl (fun KQ hKQ => ?_) AllReadyH.nil
          go_simp
          refine (cK.out _).mono ?_
          rintro e y6 ⟨rfl, rfl⟩
          go_wp2_with fail
          refine hKQ.out _ _ ?s_7 (fun hHeld7 => ?_)
          case s_7 => exact ⟨KZ.cell 3, KZ.cell 4⟩
          clear hKQ KQ
          try simp only [Act.put, List.setIfInBounds_toArray, List.set_cons_zero, List.set_cons_succ]
          refine tk 8 { dst := some 73, op := .fieldAddr 30 (.tmp 8) 3, type := 0, pos := "zone.go:36", after := #[{ on := 0, ground := .phase }, { on := 1, ground := .phase }, { on := 2, ground := .phase }, { on := 3, ground := .phase }, { on := 4, ground := .textOnly Go.Departure.lateStores }, { on := 5, ground := .textOnly Go.Departure.lateStores }, { on := 6, ground := .textOnly Go.Departure.lateStores }, { on := 7, ground := .phase }], guard := none } _ ?_
          try simp only [Act.put, List.setIfInBounds_toArray, List.set_cons_zero, List.set_cons_succ]
          refine wpAnyH_ready (rs := [9]) (by kernel_rfl) (by simp) ?_
          refine AllReadyH.cons (o := { dst := none, op := .store 3 (.tmp 73) (.tmp 68), type := 0, pos := "zone.go:36", after := #[{ on := 8, ground := .data }, { on := 3, ground := .data }, { on := 7, ground := .chain }, { on := 0, ground := .phase }, { on := 1, ground := .phase }, { on := 2, ground := .phase }, { on := 3, ground := .phase }, { on := 4, ground := .textOnly Go.Departure.lateStores }, { on := 5, ground := .textOnly Go.Departure.lateStores }, { on := 6, ground := .textOnly Go.Departure.lateStores }, { on := 7, ground := .phase }], guard := none }) rfl (fun KQ hKQ => ?_) AllReadyH.nil
          go_simp
          refine hKQ.out _ _ ?s_9 (fun hHeld9 => ?_)
          case s_9 => exact ⟨(KZ.far (show W.heap.size ≠ gc by omega) _).cell 3, (KZ.far (show W.heap.size ≠ gc by omega) _).cell 4⟩
          clear hKQ KQ
          try simp only [Act.put]
          refine tk 10 { dst := some 74, op := .fieldAddr 30 (.tmp 8) 4, type := 0, pos := "zone.go:36", after := #[{ on := 0, ground := .phase }, { on := 1, ground := .phase }, { on := 2, ground := .phase }, { on := 3, ground := .phase }, { on := 4, ground := .phase }, { on := 5, ground := .phase }, { on := 6, ground := .phase }, { on := 7, ground := .phase }, { on := 8, ground := .phase }, { on := 9, ground := .phase }], guard := none } _ ?_
          try simp only [Act.put, List.setIfInBounds_toArray, List.set_cons_zero, List.set_cons_succ]
          refine wpAnyH_ready (rs := [11]) (by kernel_rfl) (by simp) ?_
          refine AllReadyH.cons (o := { dst := none, op := .store 3 (.tmp 74) (.tmp 72), type := 0, pos := "zone.go:36", after := #[{ on := 10, ground := .data }, { on := 7, ground := .data }, { on := 9, ground := .chain }, { on := 0, ground := .phase }, { on := 1, ground := .phase }, { on := 2, ground := .phase }, { on := 3, ground := .phase }, { on := 4, ground := .phase }, { on := 5, ground := .phase }, { on := 6, ground := .phase }, { on := 7, ground := .phase }, { on := 8, ground := .phase }, { on := 9, ground := .phase }], guard := none }) rfl (fun KQ hKQ => ?_) AllReadyH.nil
          go_simp
          refine hKQ.out _ _ ?s_11 (fun hHeld11 => ?_)
          case s_11 => exact ⟨((KZ.far (show W.heap.size ≠ gc by omega) _).far (show W.heap.size ≠ gc by omega) _).cell 3, ((KZ.far (show W.heap.size ≠ gc by omega) _).far (show W.heap.size ≠ gc by omega) _).cell 4⟩
          clear hKQ KQ
          try simp only [Act.put]
          refine wpAnyH_done (by kernel_rfl) ?_ _
          have kc6 : Blk 30 (((y5.setCell ⟨gc, 3, none⟩ (.int .i64 qe)).setCell ⟨gc, 4, none⟩ (.int .i64 qk)).drew) gc [.int .u16 (s.v : Int), .int .u16 (s.w : Int), .int .u16 (s.l : Int), .int .i64 qe, .int .i64 qk] := ((KC.set_ 3 _).set_ 4 _).drew
          have kr6 : Blk 30 (((y5.setCell ⟨gc, 3, none⟩ (.int .i64 qe)).setCell ⟨gc, 4, none⟩ (.int .i64 qk)).drew) (W.heap.size + 1) [.int .u16 0, .int .u16 0, .int .u16 0, .int .i64 0, .int .i64 0] := ((KR.far (show W.heap.size + 1 ≠ gc by omega) _).far (show W.heap.size + 1 ≠ gc by omega) _).drew
          have hb6 : Below W.heap.size W (((y5.setCell ⟨gc, 3, none⟩ (.int .i64 qe)).setCell ⟨gc, 4, none⟩ (.int .i64 qk)).drew) := ((HBd.setCell (show W.heap.size ≤ gc by omega) _).setCell (show W.heap.size ≤ gc by omega) _).drew
          go_upto_region 13 with (fail)
          generalize ((y5.setCell ⟨gc, 3, none⟩ (.int .i64 qe)).setCell ⟨gc, 4, none⟩ (.int .i64 qk)).drew = w6 at *
          have KR6 := Lib.hid kr6
          have HB6 := Lib.hid hb6
          clear x0 x1 x2 x3 x4 z0 z01 z02 z03 z04 z05 f0 KZ KC KR HBd HI5 HI
          obtain ⟨x0, x1, x2, x3, x4⟩ := blk5 kc6
          have df := fun i => kr6.frozen i
          obtain ⟨d0, d1, d2, d3, d4⟩ := blk5 kr6
          clear kc6 kr6 hb6
          go_wp2_with fail
          have sF := put5 (.int .u16 (s.v : Int)) (.int .u16 (s.w : Int)) (.int .u16 (s.l : Int)) (.int .i64 qe) (.int .i64 qk) KR6.out
          have bF := below5 (g := W.heap.size + 1) (.int .u16 (s.v : Int)) (.int .u16 (s.w : Int)) (.int .u16 (s.l : Int)) (.int .i64 qe) (.int .i64 qk) HB6.out (by first | omega | simp)
          generalize (((((w6.setCell ⟨W.heap.size + 1, 0, none⟩ (.int .u16 (s.v : Int))).setCell ⟨W.heap.size + 1, 1, none⟩ (.int .u16 (s.w : Int))).setCell ⟨W.heap.size + 1, 2, none⟩ (.int .u16 (s.l : Int))).setCell ⟨W.heap.size + 1, 3, none⟩ (.int .i64 qe)).setCell ⟨W.heap.size + 1, 4, none⟩ (.int .i64 qk)) = wf at *
          obtain ⟨e0, e1, e2, e3, e4⟩ := blk5 sF
          (try simp only [Exit.inBlock, Exit.then])
          refine bodyPost_ret (by simp [results, Tryd.results9, go_sem, e0, e1, e2, e3, e4]; try rfl) rfl ?_
          exact ⟨by rw [HE1.out, HE2.out, E1.out]; rfl, bF⟩
end Go.Proofs.YtfcljdpjjabhjaaDoor.zoni
