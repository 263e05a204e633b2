/- ConfMeets answers true: whether quorums of two configurations must meet. Conditions: sets are uint16 values, numbers int. -/
import Derived.Test.YtdpfpcdoocampaaBegun10
import Derived.Test.YtdpfpcdoocampaaRef10f
namespace Go.Proofs.Ytdpfpcdoocampaa.law10
open Go Go.RowKit Go.Proofs.Ytdpfpcdoocampaa.kit Go.Proofs.Ytdpfpcdoocampaa.nums Go.Proofs.Ytdpfpcdoocampaa.se Go.Proofs.Ytdpfpcdoocampaa.cf
set_option linter.unusedVariables false

set_option maxHeartbeats 2000000 in
theorem meets_walk (a b : CfL) (w : World) (ha : a.ok) (hb : b.ok) : Calls Try.prog 5 #[cfV a, cfV b] w fun e w' => e = .returned (.bool true) ∧ Below w.heap.size w w' := by
  have CB := Lib.hid (fun w => begun_any w)
  have MA := Lib.hid (fun w => ref10.may_any a w ha)
  have MB := Lib.hid (fun w => ref10.may_any b w hb)
  have LM := Lib.hid (fun w => confi.meet_any a b w ha hb)
  have RM := Lib.hid (fun w => ref10.meet_any a b w ha hb)
  have HE : Hid (mayC a = true → mayC b = true → meetR (quosF (joinF a.v a.w) a.e) (quosF (joinF b.v b.w) b.k) = meetC a b) := fun h1 h2 => by
    obtain ⟨a1, a2, _, _, a5, a6, _⟩ := may_parts h1
    obtain ⟨b1, b2, _, _, _, _, b7, b8, _⟩ := may_parts h2
    exact meet_same a1 a2 b1 b2 a5 a6 b7 b8
  generalize meetR (quosF (joinF a.v a.w) a.e) (quosF (joinF b.v b.w) b.k) = x at *
  generalize meetC a b = y at *
  generalize mayC a = ma at *
  generalize mayC b = mb at *
  unfold cfV at *
  obtain ⟨av, aw, al, ae, ak⟩ := a
  obtain ⟨bv, bw, bl, be, bk⟩ := b
  dsimp only at *
  clear ha hb
  have k0 : Blk 25 ((w.alloc (.cells #[.int .u16 (av : Int), .int .u16 (aw : Int), .int .u16 (al : Int), .int .i64 ae, .int .i64 ak] 25)).alloc (.cells #[.int .u16 (bv : Int), .int .u16 (bw : Int), .int .u16 (bl : Int), .int .i64 be, .int .i64 bk] 25)) w.heap.size [.int .u16 (av : Int), .int .u16 (aw : Int), .int .u16 (al : Int), .int .i64 ae, .int .i64 ak] := Blk.alloc (heap_alloc_new w _) _
  have k1 : Blk 25 ((w.alloc (.cells #[.int .u16 (av : Int), .int .u16 (aw : Int), .int .u16 (al : Int), .int .i64 ae, .int .i64 ak] 25)).alloc (.cells #[.int .u16 (bv : Int), .int .u16 (bw : Int), .int .u16 (bl : Int), .int .i64 be, .int .i64 bk] 25)) (w.heap.size + 1) [.int .u16 (bv : Int), .int .u16 (bw : Int), .int .u16 (bl : Int), .int .i64 be, .int .i64 bk] := by have := heap_alloc_new (w.alloc (.cells #[.int .u16 (av : Int), .int .u16 (aw : Int), .int .u16 (al : Int), .int .i64 ae, .int .i64 ak] 25)) (.cells #[.int .u16 (bv : Int), .int .u16 (bw : Int), .int .u16 (bl : Int), .int .i64 be, .int .i64 bk] 25); rwa [show (w.alloc (.cells #[.int .u16 (av : Int), .int .u16 (aw : Int), .int .u16 (al : Int), .int .i64 ae, .int .i64 ak] 25)).heap.size = w.heap.size + 1 by simp] at this
  have HB := Lib.hid (((Below.refl w.heap.size w).alloc (Nat.le_refl _) (.cells #[.int .u16 (av : Int), .int .u16 (aw : Int), .int .u16 (al : Int), .int .i64 ae, .int .i64 ak] 25)).alloc (by simp) (.cells #[.int .u16 (bv : Int), .int .u16 (bw : Int), .int .u16 (bl : Int), .int .i64 be, .int .i64 bk] 25))
  have HS : Hid (∀ wq, Below ((w.alloc (.cells #[.int .u16 (av : Int), .int .u16 (aw : Int), .int .u16 (al : Int), .int .i64 ae, .int .i64 ak] 25)).alloc (.cells #[.int .u16 (bv : Int), .int .u16 (bw : Int), .int .u16 (bl : Int), .int .i64 be, .int .i64 bk] 25)).heap.size ((w.alloc (.cells #[.int .u16 (av : Int), .int .u16 (aw : Int), .int .u16 (al : Int), .int .i64 ae, .int .i64 ak] 25)).alloc (.cells #[.int .u16 (bv : Int), .int .u16 (bw : Int), .int .u16 (bl : Int), .int .i64 be, .int .i64 bk] 25)) wq → (wq.cell? ⟨w.heap.size, 0, none⟩ = some (.int .u16 (av : Int)) ∧ wq.cell? ⟨w.heap.size, 1, none⟩ = some (.int .u16 (aw : Int)) ∧ wq.cell? ⟨w.heap.size, 2, none⟩ = some (.int .u16 (al : Int)) ∧ wq.cell? ⟨w.heap.size, 3, none⟩ = some (.int .i64 ae) ∧ wq.cell? ⟨w.heap.size, 4, none⟩ = some (.int .i64 ak)) ∧ (wq.cell? ⟨w.heap.size + 1, 0, none⟩ = some (.int .u16 (bv : Int)) ∧ wq.cell? ⟨w.heap.size + 1, 1, none⟩ = some (.int .u16 (bw : Int)) ∧ wq.cell? ⟨w.heap.size + 1, 2, none⟩ = some (.int .u16 (bl : Int)) ∧ wq.cell? ⟨w.heap.size + 1, 3, none⟩ = some (.int .i64 be) ∧ wq.cell? ⟨w.heap.size + 1, 4, none⟩ = some (.int .i64 bk))) := fun wq hq => ⟨blk5 (k0.below hq k0.lt), blk5 (k1.below hq k1.lt)⟩
  have q0 := Below.refl ((w.alloc (.cells #[.int .u16 (av : Int), .int .u16 (aw : Int), .int .u16 (al : Int), .int .i64 ae, .int .i64 ak] 25)).alloc (.cells #[.int .u16 (bv : Int), .int .u16 (bw : Int), .int .u16 (bl : Int), .int .i64 be, .int .i64 bk] 25)).heap.size ((w.alloc (.cells #[.int .u16 (av : Int), .int .u16 (aw : Int), .int .u16 (al : Int), .int .i64 ae, .int .i64 ak] 25)).alloc (.cells #[.int .u16 (bv : Int), .int .u16 (bw : Int), .int .u16 (bl : Int), .int .i64 be, .int .i64 bk] 25))
  clear k0 k1
  go_enter Try.func5, Try.ntmps5
  go_upto_region 1 with (fail)
  generalize ((w.alloc (.cells #[.int .u16 (av : Int), .int .u16 (aw : Int), .int .u16 (al : Int), .int .i64 ae, .int .i64 ak] 25)).alloc (.cells #[.int .u16 (bv : Int), .int .u16 (bw : Int), .int .u16 (bl : Int), .int .i64 be, .int .i64 bk] 25)) = w1 at *
  have r0 := HS.out _ q0
  go_wp2_with fail
  refine (CB.out _).mono ?_
  rintro e y1 ⟨rfl, hY1⟩
  have q1 := q0.trans (hY1.mono q0.size)
  have r1 := HS.out _ q1
  cases ma
  · go_wp2_with fail
    refine (MA.out _).mono ?_
    rintro e y2 ⟨rfl, hY2⟩
    have q2 := q1.trans (hY2.mono q1.size)
    have r2 := HS.out _ q2
    go_wp2_with fail
    go_ret
    exact ⟨rfl, HB.out.trans (q2.mono HB.out.size)⟩
  · cases mb
    · go_wp2_with fail
      refine (MA.out _).mono ?_
      rintro e y2 ⟨rfl, hY2⟩
      have q2 := q1.trans (hY2.mono q1.size)
      have r2 := HS.out _ q2
      go_wp2_with fail
      refine (MB.out _).mono ?_
      rintro e y3 ⟨rfl, hY3⟩
      have q3 := q2.trans (hY3.mono q2.size)
      have r3 := HS.out _ q3
      go_wp2_with fail
      go_ret
      exact ⟨rfl, HB.out.trans (q3.mono HB.out.size)⟩
    · obtain rfl : x = y := HE.out rfl rfl
      go_wp2_with fail
      refine (MA.out _).mono ?_
      rintro e y2 ⟨rfl, hY2⟩
      have q2 := q1.trans (hY2.mono q1.size)
      have r2 := HS.out _ q2
      go_wp2_with fail
      refine (MB.out _).mono ?_
      rintro e y3 ⟨rfl, hY3⟩
      have q3 := q2.trans (hY3.mono q2.size)
      have r3 := HS.out _ q3
      go_upto_region 5 with (fail)
      have q4 := q3.drew
      refine wp_region_held_drew (S := fun wq => (wq.cell? ⟨w.heap.size, 0, none⟩ = some (.int .u16 (av : Int)) ∧ wq.cell? ⟨w.heap.size, 1, none⟩ = some (.int .u16 (aw : Int)) ∧ wq.cell? ⟨w.heap.size, 2, none⟩ = some (.int .u16 (al : Int)) ∧ wq.cell? ⟨w.heap.size, 3, none⟩ = some (.int .i64 ae) ∧ wq.cell? ⟨w.heap.size, 4, none⟩ = some (.int .i64 ak)) ∧ (wq.cell? ⟨w.heap.size + 1, 0, none⟩ = some (.int .u16 (bv : Int)) ∧ wq.cell? ⟨w.heap.size + 1, 1, none⟩ = some (.int .u16 (bw : Int)) ∧ wq.cell? ⟨w.heap.size + 1, 2, none⟩ = some (.int .u16 (bl : Int)) ∧ wq.cell? ⟨w.heap.size + 1, 3, none⟩ = some (.int .i64 be) ∧ wq.cell? ⟨w.heap.size + 1, 4, none⟩ = some (.int .i64 bk))) (by kernel_rfl) ?s_meets5 (fun hHeld => ?_)
      case s_meets5 => exact HS.out _ q4
      refine tk 0 { dst := some 15, op := .load 25 (.tmp 2), type := 25, pos := "law.go:53", after := #[], guard := none } _ ?_
      try simp only [Act.put, List.setIfInBounds_toArray, List.set_cons_zero, List.set_cons_succ]
      refine tk 1 { dst := some 16, op := .load 25 (.tmp 3), type := 25, pos := "law.go:53", after := #[], guard := none } _ ?_
      try simp only [Act.put, List.setIfInBounds_toArray, List.set_cons_zero, List.set_cons_succ]
      refine tk 3 { dst := some 18, op := .load 25 (.tmp 2), type := 25, pos := "law.go:53", after := #[], guard := none } _ ?_
      try simp only [Act.put, List.setIfInBounds_toArray, List.set_cons_zero, List.set_cons_succ]
      refine tk 4 { dst := some 19, op := .load 25 (.tmp 3), type := 25, pos := "law.go:53", after := #[], guard := none } _ ?_
      try simp only [Act.put, List.setIfInBounds_toArray, List.set_cons_zero, List.set_cons_succ]
      refine wpAnyH_ready (rs := [2]) (by kernel_rfl) (by simp) ?_
      refine AllReadyH.cons (o := { dst := some 17, op := .call { callee := .value (.func 31), args := #[.tmp 15, .tmp 16], argTypes := #[25, 25] }, type := 4, pos := "law.go:53", after := #[{ on := 0, ground := .data }, { on := 1, ground := .data }], guard := none }) rfl (fun KQ hKQ => ?_) AllReadyH.nil
      go_simp
      refine (LM.out _).mono ?_
      rintro e y5 ⟨rfl, hY5⟩
      have q5 := q4.trans (hY5.mono q4.size)
      have r5 := HS.out _ q5
      go_wp2_with fail
      refine hKQ.out _ _ ?s_2 (fun hHeld2 => ?_)
      case s_2 => exact r5
      clear hKQ KQ
      try simp only [Act.put, List.setIfInBounds_toArray, List.set_cons_zero, List.set_cons_succ]
      refine wpAnyH_ready (rs := [5]) (by kernel_rfl) (by simp) ?_
      refine AllReadyH.cons (o := { dst := some 20, op := .call { callee := .value (.func 32), args := #[.tmp 18, .tmp 19], argTypes := #[25, 25] }, type := 4, pos := "law.go:53", after := #[{ on := 3, ground := .data }, { on := 4, ground := .data }, { on := 2, ground := .chain }], guard := none }) rfl (fun KQ hKQ => ?_) AllReadyH.nil
      go_simp
      refine (RM.out _).mono ?_
      rintro e y6 ⟨rfl, hY6⟩
      have q6 := q5.trans (hY6.mono q5.size)
      have r6 := HS.out _ q6
      go_wp2_with fail
      refine hKQ.out _ _ ?s_5 (fun hHeld5 => ?_)
      case s_5 => exact r6
      clear hKQ KQ
      try simp only [Act.put, List.setIfInBounds_toArray, List.set_cons_zero, List.set_cons_succ]
      refine tk 6 { dst := some 21, op := .binOp .eql 4 (.tmp 17) (.tmp 20) 4, type := 4, pos := "law.go:53", after := #[{ on := 2, ground := .data }, { on := 5, ground := .data }], guard := none } _ ?_
      try simp only [Act.put, List.setIfInBounds_toArray, List.set_cons_zero, List.set_cons_succ]
      refine tk 7 { dst := some 4, op := .assign (.tmp 21), type := 4, pos := "law.go:53", after := #[{ on := 6, ground := .data }, { on := 5, ground := .chain }, { on := 0, ground := .phase }, { on := 1, ground := .phase }, { on := 2, ground := .phase }, { on := 3, ground := .phase }, { on := 4, ground := .phase }, { on := 5, ground := .phase }, { on := 6, ground := .phase }], guard := none } _ ?_
      try simp only [Act.put, List.setIfInBounds_toArray, List.set_cons_zero, List.set_cons_succ]
      refine wpAnyH_done (by kernel_rfl) ?_ _
      go_wp2_with fail
      go_ret
      exact ⟨ref9.ret_bool (by simp), HB.out.trans (q6.mono HB.out.size)⟩
end Go.Proofs.Ytdpfpcdoocampaa.law10
