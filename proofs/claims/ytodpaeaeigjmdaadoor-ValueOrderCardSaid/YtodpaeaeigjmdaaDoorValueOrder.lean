/- Values that may be stand in a line (ValueOrder): true of every input. -/
import Derived.Test.YtodpaeaeigjmdaaDoorValLaw
import Derived.Test.YtodpaeaeigjmdaaDoorVaEq
namespace Go.Proofs.YtodpaeaeigjmdaaDoor.law7
open Go Go.RowKit Go.Proofs.YtodpaeaeigjmdaaDoor.kit Go.Proofs.YtodpaeaeigjmdaaDoor.nums Go.Proofs.YtodpaeaeigjmdaaDoor.st Go.Proofs.YtodpaeaeigjmdaaDoor.va Go.Proofs.YtodpaeaeigjmdaaDoor.ref7 Go.Proofs.YtodpaeaeigjmdaaDoor.libw
set_option linter.unusedVariables false

set_option maxRecDepth 100000 in
set_option maxHeartbeats 4000000 in
theorem order_walk (a b c : VaL) (w : World) (ha : a.ok ∧ (a.s.length : Int) ≤ 9223372036854775807) (hb : b.ok ∧ (b.s.length : Int) ≤ 9223372036854775807) (hc : c.ok ∧ (c.s.length : Int) ≤ 9223372036854775807) (hw : LibW w) :
    Calls Tryd.prog 7 #[vaV a, vaV b, vaV c] w fun e w' => e = .returned (.bool true) ∧ Below w.heap.size w w' := by
  have BG := Lib.hid (fun wq (h : Below w.heap.size w wq) => begun_any wq (hw.on h))
  clear hw
  have MA := Lib.hid (fun w => val.may_any a ha.1 ha.2 w)
  have MB := Lib.hid (fun w => val.may_any b hb.1 hb.2 w)
  have MC := Lib.hid (fun w => val.may_any c hc.1 hc.2 w)
  have CAB := Lib.hid (fun w => val.cmp_any a b ha.1 hb.1 w)
  have CBA := Lib.hid (fun w => val.cmp_any b a hb.1 ha.1 w)
  have CBC := Lib.hid (fun w => val.cmp_any b c hb.1 hc.1 w)
  have CAC := Lib.hid (fun w => val.cmp_any a c ha.1 hc.1 w)
  have RAB := Lib.hid (fun w => ref7.cmp_any a b ha.1 hb.1 w)
  obtain ⟨hx, hneg, hno⟩ := cmp_line a b c
  rw [hneg] at CBA
  clear ha hb hc hneg
  generalize cmpV a b = x at *
  generalize cmpV b c = y at *
  generalize cmpV a c = z at *
  generalize hma : decide (mayP a) = ma at *
  generalize hmb : decide (mayP b) = mb at *
  generalize hmc : decide (mayP c) = mc at *
  clear hma hmb hmc
  obtain ⟨ka, na, sa⟩ := a
  obtain ⟨kb, nb, sb⟩ := b
  obtain ⟨kc, nc, sc⟩ := c
  unfold vaV at *
  dsimp only at MA MB MC CAB CBA CBC CAC RAB ⊢
  generalize strOfNums sa = Ta at *
  generalize strOfNums sb = Tb at *
  generalize strOfNums sc = Tc at *
  have hB0 : Hid (Below w.heap.size w (((w.alloc (.cells #[.int .i64 ka, .int .i64 na, .string Ta] 24)).alloc (.cells #[.int .i64 kb, .int .i64 nb, .string Tb] 24)).alloc (.cells #[.int .i64 kc, .int .i64 nc, .string Tc] 24))) := ((((Below.refl _ _).alloc (Nat.le_refl _) _).alloc (by simp) _).alloc (by simp; omega) _)
  have HC : Hid (∀ wq, Below (((w.alloc (.cells #[.int .i64 ka, .int .i64 na, .string Ta] 24)).alloc (.cells #[.int .i64 kb, .int .i64 nb, .string Tb] 24)).alloc (.cells #[.int .i64 kc, .int .i64 nc, .string Tc] 24)).heap.size (((w.alloc (.cells #[.int .i64 ka, .int .i64 na, .string Ta] 24)).alloc (.cells #[.int .i64 kb, .int .i64 nb, .string Tb] 24)).alloc (.cells #[.int .i64 kc, .int .i64 nc, .string Tc] 24)) wq → (wq.cell? ⟨w.heap.size, 0, none⟩ = some (.int .i64 ka) ∧ wq.cell? ⟨w.heap.size, 1, none⟩ = some (.int .i64 na) ∧ wq.cell? ⟨w.heap.size, 2, none⟩ = some (.string Ta)) ∧ (wq.cell? ⟨w.heap.size + 1, 0, none⟩ = some (.int .i64 kb) ∧ wq.cell? ⟨w.heap.size + 1, 1, none⟩ = some (.int .i64 nb) ∧ wq.cell? ⟨w.heap.size + 1, 2, none⟩ = some (.string Tb)) ∧ (wq.cell? ⟨w.heap.size + 1 + 1, 0, none⟩ = some (.int .i64 kc) ∧ wq.cell? ⟨w.heap.size + 1 + 1, 1, none⟩ = some (.int .i64 nc) ∧ wq.cell? ⟨w.heap.size + 1 + 1, 2, none⟩ = some (.string Tc))) := fun wq hq => by
    have k0 : Blk 24 (((w.alloc (.cells #[.int .i64 ka, .int .i64 na, .string Ta] 24)).alloc (.cells #[.int .i64 kb, .int .i64 nb, .string Tb] 24)).alloc (.cells #[.int .i64 kc, .int .i64 nc, .string Tc] 24)) w.heap.size [.int .i64 ka, .int .i64 na, .string Ta] := Blk.alloc (Blk.alloc (heap_alloc_new w _) _) _
    have k1 : Blk 24 (((w.alloc (.cells #[.int .i64 ka, .int .i64 na, .string Ta] 24)).alloc (.cells #[.int .i64 kb, .int .i64 nb, .string Tb] 24)).alloc (.cells #[.int .i64 kc, .int .i64 nc, .string Tc] 24)) (w.heap.size + 1) [.int .i64 kb, .int .i64 nb, .string Tb] := by
      have := Blk.alloc (E := 24) (cs := [.int .i64 kb, .int .i64 nb, .string Tb]) (heap_alloc_new (w.alloc (.cells #[.int .i64 ka, .int .i64 na, .string Ta] 24)) _) (.cells #[.int .i64 kc, .int .i64 nc, .string Tc] 24)
      simpa using this
    have k2 : Blk 24 (((w.alloc (.cells #[.int .i64 ka, .int .i64 na, .string Ta] 24)).alloc (.cells #[.int .i64 kb, .int .i64 nb, .string Tb] 24)).alloc (.cells #[.int .i64 kc, .int .i64 nc, .string Tc] 24)) (w.heap.size + 1 + 1) [.int .i64 kc, .int .i64 nc, .string Tc] := by
      have := heap_alloc_new ((w.alloc (.cells #[.int .i64 ka, .int .i64 na, .string Ta] 24)).alloc (.cells #[.int .i64 kb, .int .i64 nb, .string Tb] 24)) (.cells #[.int .i64 kc, .int .i64 nc, .string Tc] 24)
      simpa [Blk] using this
    have j0 := k0.below hq k0.lt
    have j1 := k1.below hq k1.lt
    have j2 := k2.below hq k2.lt
    exact ⟨⟨j0.cell 0, j0.cell 1, j0.cell 2⟩, ⟨j1.cell 0, j1.cell 1, j1.cell 2⟩, j2.cell 0, j2.cell 1, j2.cell 2⟩
  go_enter Tryd.func7, Tryd.ntmps7
  go_upto_region 1 with (fail)
  generalize (((w.alloc (.cells #[.int .i64 ka, .int .i64 na, .string Ta] 24)).alloc (.cells #[.int .i64 kb, .int .i64 nb, .string Tb] 24)).alloc (.cells #[.int .i64 kc, .int .i64 nc, .string Tc] 24)) = w1 at *
  have hB : Below w1.heap.size w1 w1 := Below.refl _ _
  go_wp2_with fail
  refine (BG.out _ hB0.out).mono ?_
  rintro e w2 ⟨rfl, hB2⟩
  have hB := hB.trans (hB2.mono hB.size)
  clear hB2
  obtain ⟨⟨a0, a1, a2⟩, ⟨b0, b1, b2⟩, c0, c1, c2⟩ := HC.out _ hB
  rcases ma with _ | _
  · go_wp2_with fail
    refine (MA.out _).mono ?_
    rintro e w3 ⟨rfl, hB3⟩
    have hB := hB.trans (hB3.mono hB.size)
    clear hB3
    obtain ⟨⟨a0, a1, a2⟩, ⟨b0, b1, b2⟩, c0, c1, c2⟩ := HC.out _ hB
    go_wp2_with fail
    go_ret
    exact ⟨by first | rfl | (simp; omega), hB0.out.trans (hB.mono hB0.out.size)⟩
  rcases mb with _ | _
  · go_wp2_with fail
    refine (MA.out _).mono ?_
    rintro e w3 ⟨rfl, hB3⟩
    have hB := hB.trans (hB3.mono hB.size)
    clear hB3
    obtain ⟨⟨a0, a1, a2⟩, ⟨b0, b1, b2⟩, c0, c1, c2⟩ := HC.out _ hB
    go_wp2_with fail
    refine (MB.out _).mono ?_
    rintro e w4 ⟨rfl, hB4⟩
    have hB := hB.trans (hB4.mono hB.size)
    clear hB4
    obtain ⟨⟨a0, a1, a2⟩, ⟨b0, b1, b2⟩, c0, c1, c2⟩ := HC.out _ hB
    go_wp2_with fail
    go_ret
    exact ⟨by first | rfl | (simp; omega), hB0.out.trans (hB.mono hB0.out.size)⟩
  rcases mc with _ | _
  · go_wp2_with fail
    refine (MA.out _).mono ?_
    rintro e w3 ⟨rfl, hB3⟩
    have hB := hB.trans (hB3.mono hB.size)
    clear hB3
    obtain ⟨⟨a0, a1, a2⟩, ⟨b0, b1, b2⟩, c0, c1, c2⟩ := HC.out _ hB
    go_wp2_with fail
    refine (MB.out _).mono ?_
    rintro e w4 ⟨rfl, hB4⟩
    have hB := hB.trans (hB4.mono hB.size)
    clear hB4
    obtain ⟨⟨a0, a1, a2⟩, ⟨b0, b1, b2⟩, c0, c1, c2⟩ := HC.out _ hB
    go_wp2_with fail
    refine (MC.out _).mono ?_
    rintro e w5 ⟨rfl, hB5⟩
    have hB := hB.trans (hB5.mono hB.size)
    clear hB5
    obtain ⟨⟨a0, a1, a2⟩, ⟨b0, b1, b2⟩, c0, c1, c2⟩ := HC.out _ hB
    go_wp2_with fail
    go_ret
    exact ⟨by first | rfl | (simp; omega), hB0.out.trans (hB.mono hB0.out.size)⟩
  go_wp2_with fail
  refine (MA.out _).mono ?_
  rintro e w3 ⟨rfl, hB3⟩
  have hB := hB.trans (hB3.mono hB.size)
  clear hB3
  obtain ⟨⟨a0, a1, a2⟩, ⟨b0, b1, b2⟩, c0, c1, c2⟩ := HC.out _ hB
  go_wp2_with fail
  refine (MB.out _).mono ?_
  rintro e w4 ⟨rfl, hB4⟩
  have hB := hB.trans (hB4.mono hB.size)
  clear hB4
  obtain ⟨⟨a0, a1, a2⟩, ⟨b0, b1, b2⟩, c0, c1, c2⟩ := HC.out _ hB
  go_wp2_with fail
  refine (MC.out _).mono ?_
  rintro e w5 ⟨rfl, hB5⟩
  have hB := hB.trans (hB5.mono hB.size)
  clear hB5
  obtain ⟨⟨a0, a1, a2⟩, ⟨b0, b1, b2⟩, c0, c1, c2⟩ := HC.out _ hB
  go_wp2_with fail
  refine (CAB.out _).mono ?_
  rintro e w6 ⟨rfl, hB6⟩
  have hB := hB.trans (hB6.mono hB.size)
  clear hB6
  obtain ⟨⟨a0, a1, a2⟩, ⟨b0, b1, b2⟩, c0, c1, c2⟩ := HC.out _ hB
  by_cases hy : y ≤ 0
  · by_cases hz : 0 < z
    · have hx1 : x = 1 := by omega
      subst hx1
      go_wp2_with fail
      refine (CBA.out _).mono ?_
      rintro e w7 ⟨rfl, hB7⟩
      have hB := hB.trans (hB7.mono hB.size)
      clear hB7
      obtain ⟨⟨a0, a1, a2⟩, ⟨b0, b1, b2⟩, c0, c1, c2⟩ := HC.out _ hB
      go_wp2_with fail
      refine (RAB.out _).mono ?_
      rintro e w8 ⟨rfl, hB8⟩
      have hB := hB.trans (hB8.mono hB.size)
      clear hB8
      obtain ⟨⟨a0, a1, a2⟩, ⟨b0, b1, b2⟩, c0, c1, c2⟩ := HC.out _ hB
      go_wp2_with fail
      go_ret
      exact ⟨by first | rfl | (simp; omega), hB0.out.trans (hB.mono hB0.out.size)⟩
    · rcases hx with rfl | rfl | rfl
      · go_wp2_with fail
        refine (CBA.out _).mono ?_
        rintro e w7 ⟨rfl, hB7⟩
        have hB := hB.trans (hB7.mono hB.size)
        clear hB7
        obtain ⟨⟨a0, a1, a2⟩, ⟨b0, b1, b2⟩, c0, c1, c2⟩ := HC.out _ hB
        go_wp2_with fail
        refine (RAB.out _).mono ?_
        rintro e w8 ⟨rfl, hB8⟩
        have hB := hB.trans (hB8.mono hB.size)
        clear hB8
        obtain ⟨⟨a0, a1, a2⟩, ⟨b0, b1, b2⟩, c0, c1, c2⟩ := HC.out _ hB
        go_wp2_with fail
        refine (CBC.out _).mono ?_
        rintro e w9 ⟨rfl, hB9⟩
        have hB := hB.trans (hB9.mono hB.size)
        clear hB9
        obtain ⟨⟨a0, a1, a2⟩, ⟨b0, b1, b2⟩, c0, c1, c2⟩ := HC.out _ hB
        go_wp2_with fail
        refine (CAC.out _).mono ?_
        rintro e w10 ⟨rfl, hB10⟩
        have hB := hB.trans (hB10.mono hB.size)
        clear hB10
        obtain ⟨⟨a0, a1, a2⟩, ⟨b0, b1, b2⟩, c0, c1, c2⟩ := HC.out _ hB
        go_wp2_with fail
        go_ret
        exact ⟨by first | rfl | (simp; omega), hB0.out.trans (hB.mono hB0.out.size)⟩
      · go_wp2_with fail
        refine (CBA.out _).mono ?_
        rintro e w7 ⟨rfl, hB7⟩
        have hB := hB.trans (hB7.mono hB.size)
        clear hB7
        obtain ⟨⟨a0, a1, a2⟩, ⟨b0, b1, b2⟩, c0, c1, c2⟩ := HC.out _ hB
        go_wp2_with fail
        refine (RAB.out _).mono ?_
        rintro e w8 ⟨rfl, hB8⟩
        have hB := hB.trans (hB8.mono hB.size)
        clear hB8
        obtain ⟨⟨a0, a1, a2⟩, ⟨b0, b1, b2⟩, c0, c1, c2⟩ := HC.out _ hB
        go_wp2_with fail
        refine (CBC.out _).mono ?_
        rintro e w9 ⟨rfl, hB9⟩
        have hB := hB.trans (hB9.mono hB.size)
        clear hB9
        obtain ⟨⟨a0, a1, a2⟩, ⟨b0, b1, b2⟩, c0, c1, c2⟩ := HC.out _ hB
        go_wp2_with fail
        refine (CAC.out _).mono ?_
        rintro e w10 ⟨rfl, hB10⟩
        have hB := hB.trans (hB10.mono hB.size)
        clear hB10
        obtain ⟨⟨a0, a1, a2⟩, ⟨b0, b1, b2⟩, c0, c1, c2⟩ := HC.out _ hB
        go_wp2_with fail
        go_ret
        exact ⟨by first | rfl | (simp; omega), hB0.out.trans (hB.mono hB0.out.size)⟩
      · go_wp2_with fail
        refine (CBA.out _).mono ?_
        rintro e w7 ⟨rfl, hB7⟩
        have hB := hB.trans (hB7.mono hB.size)
        clear hB7
        obtain ⟨⟨a0, a1, a2⟩, ⟨b0, b1, b2⟩, c0, c1, c2⟩ := HC.out _ hB
        go_wp2_with fail
        refine (RAB.out _).mono ?_
        rintro e w8 ⟨rfl, hB8⟩
        have hB := hB.trans (hB8.mono hB.size)
        clear hB8
        obtain ⟨⟨a0, a1, a2⟩, ⟨b0, b1, b2⟩, c0, c1, c2⟩ := HC.out _ hB
        go_wp2_with fail
        go_ret
        exact ⟨by first | rfl | (simp; omega), hB0.out.trans (hB.mono hB0.out.size)⟩
  · rcases hx with rfl | rfl | rfl
    · go_wp2_with fail
      refine (CBA.out _).mono ?_
      rintro e w7 ⟨rfl, hB7⟩
      have hB := hB.trans (hB7.mono hB.size)
      clear hB7
      obtain ⟨⟨a0, a1, a2⟩, ⟨b0, b1, b2⟩, c0, c1, c2⟩ := HC.out _ hB
      go_wp2_with fail
      refine (RAB.out _).mono ?_
      rintro e w8 ⟨rfl, hB8⟩
      have hB := hB.trans (hB8.mono hB.size)
      clear hB8
      obtain ⟨⟨a0, a1, a2⟩, ⟨b0, b1, b2⟩, c0, c1, c2⟩ := HC.out _ hB
      go_wp2_with fail
      refine (CBC.out _).mono ?_
      rintro e w9 ⟨rfl, hB9⟩
      have hB := hB.trans (hB9.mono hB.size)
      clear hB9
      obtain ⟨⟨a0, a1, a2⟩, ⟨b0, b1, b2⟩, c0, c1, c2⟩ := HC.out _ hB
      go_wp2_with fail
      go_ret
      exact ⟨by first | rfl | (simp; omega), hB0.out.trans (hB.mono hB0.out.size)⟩
    · go_wp2_with fail
      refine (CBA.out _).mono ?_
      rintro e w7 ⟨rfl, hB7⟩
      have hB := hB.trans (hB7.mono hB.size)
      clear hB7
      obtain ⟨⟨a0, a1, a2⟩, ⟨b0, b1, b2⟩, c0, c1, c2⟩ := HC.out _ hB
      go_wp2_with fail
      refine (RAB.out _).mono ?_
      rintro e w8 ⟨rfl, hB8⟩
      have hB := hB.trans (hB8.mono hB.size)
      clear hB8
      obtain ⟨⟨a0, a1, a2⟩, ⟨b0, b1, b2⟩, c0, c1, c2⟩ := HC.out _ hB
      go_wp2_with fail
      refine (CBC.out _).mono ?_
      rintro e w9 ⟨rfl, hB9⟩
      have hB := hB.trans (hB9.mono hB.size)
      clear hB9
      obtain ⟨⟨a0, a1, a2⟩, ⟨b0, b1, b2⟩, c0, c1, c2⟩ := HC.out _ hB
      go_wp2_with fail
      go_ret
      exact ⟨by first | rfl | (simp; omega), hB0.out.trans (hB.mono hB0.out.size)⟩
    · go_wp2_with fail
      refine (CBA.out _).mono ?_
      rintro e w7 ⟨rfl, hB7⟩
      have hB := hB.trans (hB7.mono hB.size)
      clear hB7
      obtain ⟨⟨a0, a1, a2⟩, ⟨b0, b1, b2⟩, c0, c1, c2⟩ := HC.out _ hB
      go_wp2_with fail
      refine (RAB.out _).mono ?_
      rintro e w8 ⟨rfl, hB8⟩
      have hB := hB.trans (hB8.mono hB.size)
      clear hB8
      obtain ⟨⟨a0, a1, a2⟩, ⟨b0, b1, b2⟩, c0, c1, c2⟩ := HC.out _ hB
      go_wp2_with fail
      go_ret
      exact ⟨by first | rfl | (simp; omega), hB0.out.trans (hB.mono hB0.out.size)⟩
end Go.Proofs.YtodpaeaeigjmdaaDoor.law7
