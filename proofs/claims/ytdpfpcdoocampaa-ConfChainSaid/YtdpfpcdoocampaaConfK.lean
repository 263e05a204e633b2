/- What the landed conf tells of quorums that meet, and makes of a change. Conditions: sets are uint16 values, numbers int. -/
import Derived.Test.YtdpfpcdoocampaaConfI
namespace Go.Proofs.Ytdpfpcdoocampaa.confi
open Go Go.RowKit Go.Proofs.Ytdpfpcdoocampaa.kit Go.Proofs.Ytdpfpcdoocampaa.nums Go.Proofs.Ytdpfpcdoocampaa.se Go.Proofs.Ytdpfpcdoocampaa.cf
set_option linter.unusedVariables false

theorem need_le (q : Int) (s sh : Nat) (hq : q ≤ 9223372036854775807) : 0 ≤ needF q s sh ∧ needF q s sh ≤ 9223372036854775807 := by
  unfold needF; omega
set_option maxHeartbeats 1000000 in
theorem meet_any (a b : CfL) (w : World) (ha : a.ok) (hb : b.ok) : Calls Try.prog 31 #[cfV a, cfV b] w fun e w' => e = .returned (.bool (meetC a b)) ∧ Below w.heap.size w w' := by
  have CA := Lib.hid (fun w => voting_any a w ha)
  have CB := Lib.hid (fun w => voting_any b w hb)
  have HX := bits_and_u16_nat (votF a) (votF b) (vot_lt ha) (vot_lt hb)
  have hl : votF a &&& votF b < 65536 := Nat.lt_of_le_of_lt Nat.and_le_left (vot_lt ha)
  have CC := Lib.hid (fun w => count_any (votF a &&& votF b) w hl)
  have NB := Lib.hid (fun w => needs_any b.k (votF b) (votF a &&& votF b) w (vot_lt hb) hl hb.2.2.2.2.1 hb.2.2.2.2.2)
  have NA := Lib.hid (fun w => needs_any a.e (votF a) (votF a &&& votF b) w (vot_lt ha) hl ha.2.2.2.1.1 ha.2.2.2.1.2)
  have lb := need_le b.k (votF b) (votF a &&& votF b) hb.2.2.2.2.2
  have h9 := cntF_le (votF a &&& votF b)
  unfold meetC
  generalize needF b.k (votF b) (votF a &&& votF b) = nb at *
  generalize needF a.e (votF a) (votF a &&& votF b) = na at *
  generalize cntF (votF a &&& votF b) = n at *
  generalize votF a &&& votF b = z at *
  generalize votF a = sa at *
  generalize votF b = sb at *
  clear ha hb
  unfold cfV at *
  obtain ⟨av, aw, al, ae, ak⟩ := a
  obtain ⟨bv, bw, bl, be, bk⟩ := b
  dsimp only at *
  have u1 : IntKind.i64.wrap ((n : Int) - nb) = (n : Int) - nb := by simp [IntKind.wrap, IntKind.bits, IntKind.signed]; omega
  have k0 : Blk 25 ((w.alloc (.cells #[.int .u16 (av : Int), .int .u16 (aw : Int), .int .u16 (al : Int), .int .i64 ae, .int .i64 ak] 25)).alloc (.cells #[.int .u16 (bv : Int), .int .u16 (bw : Int), .int .u16 (bl : Int), .int .i64 be, .int .i64 bk] 25)) w.heap.size [.int .u16 (av : Int), .int .u16 (aw : Int), .int .u16 (al : Int), .int .i64 ae, .int .i64 ak] := Blk.alloc (heap_alloc_new w _) _
  have k1 : Blk 25 ((w.alloc (.cells #[.int .u16 (av : Int), .int .u16 (aw : Int), .int .u16 (al : Int), .int .i64 ae, .int .i64 ak] 25)).alloc (.cells #[.int .u16 (bv : Int), .int .u16 (bw : Int), .int .u16 (bl : Int), .int .i64 be, .int .i64 bk] 25)) (w.heap.size + 1) [.int .u16 (bv : Int), .int .u16 (bw : Int), .int .u16 (bl : Int), .int .i64 be, .int .i64 bk] := by have := heap_alloc_new (w.alloc (.cells #[.int .u16 (av : Int), .int .u16 (aw : Int), .int .u16 (al : Int), .int .i64 ae, .int .i64 ak] 25)) (.cells #[.int .u16 (bv : Int), .int .u16 (bw : Int), .int .u16 (bl : Int), .int .i64 be, .int .i64 bk] 25); rwa [show (w.alloc (.cells #[.int .u16 (av : Int), .int .u16 (aw : Int), .int .u16 (al : Int), .int .i64 ae, .int .i64 ak] 25)).heap.size = w.heap.size + 1 by simp] at this
  have HB := Lib.hid (((Below.refl w.heap.size w).alloc (Nat.le_refl _) (.cells #[.int .u16 (av : Int), .int .u16 (aw : Int), .int .u16 (al : Int), .int .i64 ae, .int .i64 ak] 25)).alloc (by simp) (.cells #[.int .u16 (bv : Int), .int .u16 (bw : Int), .int .u16 (bl : Int), .int .i64 be, .int .i64 bk] 25))
  have HS : Hid (∀ wq, Below ((w.alloc (.cells #[.int .u16 (av : Int), .int .u16 (aw : Int), .int .u16 (al : Int), .int .i64 ae, .int .i64 ak] 25)).alloc (.cells #[.int .u16 (bv : Int), .int .u16 (bw : Int), .int .u16 (bl : Int), .int .i64 be, .int .i64 bk] 25)).heap.size ((w.alloc (.cells #[.int .u16 (av : Int), .int .u16 (aw : Int), .int .u16 (al : Int), .int .i64 ae, .int .i64 ak] 25)).alloc (.cells #[.int .u16 (bv : Int), .int .u16 (bw : Int), .int .u16 (bl : Int), .int .i64 be, .int .i64 bk] 25)) wq → (wq.cell? ⟨w.heap.size, 0, none⟩ = some (.int .u16 (av : Int)) ∧ wq.cell? ⟨w.heap.size, 1, none⟩ = some (.int .u16 (aw : Int)) ∧ wq.cell? ⟨w.heap.size, 2, none⟩ = some (.int .u16 (al : Int)) ∧ wq.cell? ⟨w.heap.size, 3, none⟩ = some (.int .i64 ae) ∧ wq.cell? ⟨w.heap.size, 4, none⟩ = some (.int .i64 ak)) ∧ (wq.cell? ⟨w.heap.size + 1, 0, none⟩ = some (.int .u16 (bv : Int)) ∧ wq.cell? ⟨w.heap.size + 1, 1, none⟩ = some (.int .u16 (bw : Int)) ∧ wq.cell? ⟨w.heap.size + 1, 2, none⟩ = some (.int .u16 (bl : Int)) ∧ wq.cell? ⟨w.heap.size + 1, 3, none⟩ = some (.int .i64 be) ∧ wq.cell? ⟨w.heap.size + 1, 4, none⟩ = some (.int .i64 bk))) := fun wq hq => ⟨blk5 (k0.below hq k0.lt), blk5 (k1.below hq k1.lt)⟩
  have q0 := Below.refl ((w.alloc (.cells #[.int .u16 (av : Int), .int .u16 (aw : Int), .int .u16 (al : Int), .int .i64 ae, .int .i64 ak] 25)).alloc (.cells #[.int .u16 (bv : Int), .int .u16 (bw : Int), .int .u16 (bl : Int), .int .i64 be, .int .i64 bk] 25)).heap.size ((w.alloc (.cells #[.int .u16 (av : Int), .int .u16 (aw : Int), .int .u16 (al : Int), .int .i64 ae, .int .i64 ak] 25)).alloc (.cells #[.int .u16 (bv : Int), .int .u16 (bw : Int), .int .u16 (bl : Int), .int .i64 be, .int .i64 bk] 25))
  clear k0 k1
  go_enter Try.func31, Try.ntmps31
  go_upto_region 1 with (fail)
  generalize ((w.alloc (.cells #[.int .u16 (av : Int), .int .u16 (aw : Int), .int .u16 (al : Int), .int .i64 ae, .int .i64 ak] 25)).alloc (.cells #[.int .u16 (bv : Int), .int .u16 (bw : Int), .int .u16 (bl : Int), .int .i64 be, .int .i64 bk] 25)) = w1 at *
  have r0 := HS.out _ q0
  have q1 := q0.drew
  refine wp_region_held_drew (S := fun wq => (wq.cell? ⟨w.heap.size, 0, none⟩ = some (.int .u16 (av : Int)) ∧ wq.cell? ⟨w.heap.size, 1, none⟩ = some (.int .u16 (aw : Int)) ∧ wq.cell? ⟨w.heap.size, 2, none⟩ = some (.int .u16 (al : Int)) ∧ wq.cell? ⟨w.heap.size, 3, none⟩ = some (.int .i64 ae) ∧ wq.cell? ⟨w.heap.size, 4, none⟩ = some (.int .i64 ak)) ∧ (wq.cell? ⟨w.heap.size + 1, 0, none⟩ = some (.int .u16 (bv : Int)) ∧ wq.cell? ⟨w.heap.size + 1, 1, none⟩ = some (.int .u16 (bw : Int)) ∧ wq.cell? ⟨w.heap.size + 1, 2, none⟩ = some (.int .u16 (bl : Int)) ∧ wq.cell? ⟨w.heap.size + 1, 3, none⟩ = some (.int .i64 be) ∧ wq.cell? ⟨w.heap.size + 1, 4, none⟩ = some (.int .i64 bk))) (by kernel_rfl) ?s_lmeet1 (fun hHeld => ?_)
  case s_lmeet1 => exact HS.out _ q1
  refine tk 0 { dst := some 7, op := .load 25 (.tmp 2), type := 25, pos := "conf.go:58", after := #[], guard := none } _ ?_
  try simp only [Act.put, List.setIfInBounds_toArray, List.set_cons_zero, List.set_cons_succ]
  refine tk 2 { dst := some 9, op := .load 25 (.tmp 3), type := 25, pos := "conf.go:58", after := #[], guard := none } _ ?_
  try simp only [Act.put, List.setIfInBounds_toArray, List.set_cons_zero, List.set_cons_succ]
  refine wpAnyH_ready (rs := [1]) (by kernel_rfl) (by simp) ?_
  refine AllReadyH.cons (o := { dst := some 8, op := .call { callee := .value (.func 37), args := #[.tmp 7], argTypes := #[25] }, type := 23, pos := "conf.go:58", after := #[{ on := 0, ground := .data }], guard := none }) rfl (fun KQ hKQ => ?_) AllReadyH.nil
  go_simp
  refine (CA.out _).mono ?_
  rintro e y2 ⟨rfl, hY2⟩
  have q2 := q1.trans (hY2.mono q1.size)
  have r2 := HS.out _ q2
  go_wp2_with fail
  refine hKQ.out _ _ ?s_1 (fun hHeld1 => ?_)
  case s_1 => exact r2
  clear hKQ KQ
  try simp only [Act.put, List.setIfInBounds_toArray, List.set_cons_zero, List.set_cons_succ]
  refine wpAnyH_ready (rs := [3]) (by kernel_rfl) (by simp) ?_
  refine AllReadyH.cons (o := { dst := some 10, op := .call { callee := .value (.func 37), args := #[.tmp 9], argTypes := #[25] }, type := 23, pos := "conf.go:58", after := #[{ on := 2, ground := .data }, { on := 1, ground := .chain }], guard := none }) rfl (fun KQ hKQ => ?_) AllReadyH.nil
  go_simp
  refine (CB.out _).mono ?_
  rintro e y3 ⟨rfl, hY3⟩
  have q3 := q2.trans (hY3.mono q2.size)
  have r3 := HS.out _ q3
  go_wp2_with fail
  refine hKQ.out _ _ ?s_3 (fun hHeld3 => ?_)
  case s_3 => exact r3
  clear hKQ KQ
  try simp only [Act.put, List.setIfInBounds_toArray, List.set_cons_zero, List.set_cons_succ]
  refine tk 4 { dst := some 11, op := .binOp .and 23 (.tmp 8) (.tmp 10) 23, type := 23, pos := "conf.go:58", after := #[{ on := 1, ground := .data }, { on := 3, ground := .data }], guard := none } _ ?_
  try simp only [Act.put, List.setIfInBounds_toArray, List.set_cons_zero, List.set_cons_succ]
  refine tk 5 { dst := some 5, op := .assign (.tmp 11), type := 23, pos := "conf.go:58", after := #[{ on := 4, ground := .data }, { on := 3, ground := .chain }, { on := 0, ground := .phase }, { on := 1, ground := .phase }, { on := 2, ground := .phase }, { on := 3, ground := .phase }, { on := 4, ground := .phase }], guard := none } _ ?_
  try simp only [Act.put, List.setIfInBounds_toArray, List.set_cons_zero, List.set_cons_succ]
  refine wpAnyH_done (by kernel_rfl) ?_ _
  go_upto_region 2 with (fail)
  have q4 := q3.drew
  refine wp_region_held_drew (S := fun wq => (wq.cell? ⟨w.heap.size, 0, none⟩ = some (.int .u16 (av : Int)) ∧ wq.cell? ⟨w.heap.size, 1, none⟩ = some (.int .u16 (aw : Int)) ∧ wq.cell? ⟨w.heap.size, 2, none⟩ = some (.int .u16 (al : Int)) ∧ wq.cell? ⟨w.heap.size, 3, none⟩ = some (.int .i64 ae) ∧ wq.cell? ⟨w.heap.size, 4, none⟩ = some (.int .i64 ak)) ∧ (wq.cell? ⟨w.heap.size + 1, 0, none⟩ = some (.int .u16 (bv : Int)) ∧ wq.cell? ⟨w.heap.size + 1, 1, none⟩ = some (.int .u16 (bw : Int)) ∧ wq.cell? ⟨w.heap.size + 1, 2, none⟩ = some (.int .u16 (bl : Int)) ∧ wq.cell? ⟨w.heap.size + 1, 3, none⟩ = some (.int .i64 be) ∧ wq.cell? ⟨w.heap.size + 1, 4, none⟩ = some (.int .i64 bk))) (by kernel_rfl) ?s_lmeet2 (fun hHeld => ?_)
  case s_lmeet2 => exact HS.out _ q4
  refine tk 0 { dst := some 12, op := .move (.tmp 5), type := 23, pos := "conf.go:60", after := #[], guard := none } _ ?_
  try simp only [Act.put, List.setIfInBounds_toArray, List.set_cons_zero, List.set_cons_succ]
  refine tk 2 { dst := some 14, op := .fieldAddr 25 (.tmp 3) 4, type := 0, pos := "conf.go:60", after := #[], guard := none } _ ?_
  try simp only [Act.put, List.setIfInBounds_toArray, List.set_cons_zero, List.set_cons_succ]
  refine tk 3 { dst := some 15, op := .load 3 (.tmp 14), type := 3, pos := "conf.go:60", after := #[{ on := 2, ground := .data }], guard := none } _ ?_
  try simp only [Act.put, List.setIfInBounds_toArray, List.set_cons_zero, List.set_cons_succ]
  refine tk 4 { dst := some 16, op := .load 25 (.tmp 3), type := 25, pos := "conf.go:60", after := #[], guard := none } _ ?_
  try simp only [Act.put, List.setIfInBounds_toArray, List.set_cons_zero, List.set_cons_succ]
  refine tk 6 { dst := some 18, op := .move (.tmp 5), type := 23, pos := "conf.go:60", after := #[], guard := none } _ ?_
  try simp only [Act.put, List.setIfInBounds_toArray, List.set_cons_zero, List.set_cons_succ]
  refine wpAnyH_ready (rs := [1]) (by kernel_rfl) (by simp) ?_
  refine AllReadyH.cons (o := { dst := some 13, op := .call { callee := .value (.func 36), args := #[.tmp 12], argTypes := #[23] }, type := 3, pos := "conf.go:60", after := #[{ on := 0, ground := .data }], guard := none }) rfl (fun KQ hKQ => ?_) AllReadyH.nil
  go_simp
  refine (CC.out _).mono ?_
  rintro e y5 ⟨rfl, hY5⟩
  have q5 := q4.trans (hY5.mono q4.size)
  have r5 := HS.out _ q5
  go_wp2_with fail
  refine hKQ.out _ _ ?s_1 (fun hHeld1 => ?_)
  case s_1 => exact r5
  clear hKQ KQ
  try simp only [Act.put, List.setIfInBounds_toArray, List.set_cons_zero, List.set_cons_succ]
  refine wpAnyH_ready (rs := [5]) (by kernel_rfl) (by simp) ?_
  refine AllReadyH.cons (o := { dst := some 17, op := .call { callee := .value (.func 37), args := #[.tmp 16], argTypes := #[25] }, type := 23, pos := "conf.go:60", after := #[{ on := 4, ground := .data }, { on := 1, ground := .chain }], guard := none }) rfl (fun KQ hKQ => ?_) AllReadyH.nil
  go_simp
  refine (CB.out _).mono ?_
  rintro e y6 ⟨rfl, hY6⟩
  have q6 := q5.trans (hY6.mono q5.size)
  have r6 := HS.out _ q6
  go_wp2_with fail
  refine hKQ.out _ _ ?s_5 (fun hHeld5 => ?_)
  case s_5 => exact r6
  clear hKQ KQ
  try simp only [Act.put, List.setIfInBounds_toArray, List.set_cons_zero, List.set_cons_succ]
  refine wpAnyH_ready (rs := [7]) (by kernel_rfl) (by simp) ?_
  refine AllReadyH.cons (o := { dst := some 19, op := .call { callee := .value (.func 54), args := #[.tmp 15, .tmp 17, .tmp 18], argTypes := #[3, 23, 23] }, type := 3, pos := "conf.go:60", after := #[{ on := 3, ground := .data }, { on := 5, ground := .data }, { on := 6, ground := .data }, { on := 5, ground := .chain }], guard := none }) rfl (fun KQ hKQ => ?_) AllReadyH.nil
  go_simp
  refine (NB.out _).mono ?_
  rintro e y7 ⟨rfl, hY7⟩
  have q7 := q6.trans (hY7.mono q6.size)
  have r7 := HS.out _ q7
  go_wp2_with fail
  refine hKQ.out _ _ ?s_7 (fun hHeld7 => ?_)
  case s_7 => exact r7
  clear hKQ KQ
  try simp only [Act.put, List.setIfInBounds_toArray, List.set_cons_zero, List.set_cons_succ]
  refine tk 8 { dst := some 20, op := .binOp .sub 3 (.tmp 13) (.tmp 19) 3, type := 3, pos := "conf.go:60", after := #[{ on := 1, ground := .data }, { on := 7, ground := .data }], guard := none } _ ?_
  try simp only [Act.put, List.setIfInBounds_toArray, List.set_cons_zero, List.set_cons_succ]
  refine tk 9 { dst := some 6, op := .assign (.tmp 20), type := 3, pos := "conf.go:60", after := #[{ on := 8, ground := .data }, { on := 7, ground := .chain }, { on := 0, ground := .phase }, { on := 1, ground := .phase }, { on := 2, ground := .phase }, { on := 3, ground := .phase }, { on := 4, ground := .phase }, { on := 5, ground := .phase }, { on := 6, ground := .phase }, { on := 7, ground := .phase }, { on := 8, ground := .phase }], guard := none } _ ?_
  try simp only [Act.put, List.setIfInBounds_toArray, List.set_cons_zero, List.set_cons_succ]
  refine wpAnyH_done (by kernel_rfl) ?_ _
  go_upto_region 3 with (fail)
  have q8 := q7.drew
  refine wp_region_held_drew (S := fun wq => (wq.cell? ⟨w.heap.size, 0, none⟩ = some (.int .u16 (av : Int)) ∧ wq.cell? ⟨w.heap.size, 1, none⟩ = some (.int .u16 (aw : Int)) ∧ wq.cell? ⟨w.heap.size, 2, none⟩ = some (.int .u16 (al : Int)) ∧ wq.cell? ⟨w.heap.size, 3, none⟩ = some (.int .i64 ae) ∧ wq.cell? ⟨w.heap.size, 4, none⟩ = some (.int .i64 ak)) ∧ (wq.cell? ⟨w.heap.size + 1, 0, none⟩ = some (.int .u16 (bv : Int)) ∧ wq.cell? ⟨w.heap.size + 1, 1, none⟩ = some (.int .u16 (bw : Int)) ∧ wq.cell? ⟨w.heap.size + 1, 2, none⟩ = some (.int .u16 (bl : Int)) ∧ wq.cell? ⟨w.heap.size + 1, 3, none⟩ = some (.int .i64 be) ∧ wq.cell? ⟨w.heap.size + 1, 4, none⟩ = some (.int .i64 bk))) (by kernel_rfl) ?s_lmeet3 (fun hHeld => ?_)
  case s_lmeet3 => exact HS.out _ q8
  refine tk 0 { dst := some 21, op := .fieldAddr 25 (.tmp 2) 3, type := 0, pos := "conf.go:61", after := #[], guard := none } _ ?_
  try simp only [Act.put, List.setIfInBounds_toArray, List.set_cons_zero, List.set_cons_succ]
  refine tk 1 { dst := some 22, op := .load 3 (.tmp 21), type := 3, pos := "conf.go:61", after := #[{ on := 0, ground := .data }], guard := none } _ ?_
  try simp only [Act.put, List.setIfInBounds_toArray, List.set_cons_zero, List.set_cons_succ]
  refine tk 2 { dst := some 23, op := .load 25 (.tmp 2), type := 25, pos := "conf.go:61", after := #[], guard := none } _ ?_
  try simp only [Act.put, List.setIfInBounds_toArray, List.set_cons_zero, List.set_cons_succ]
  refine tk 4 { dst := some 25, op := .move (.tmp 5), type := 23, pos := "conf.go:61", after := #[], guard := none } _ ?_
  try simp only [Act.put, List.setIfInBounds_toArray, List.set_cons_zero, List.set_cons_succ]
  refine tk 6 { dst := some 27, op := .move (.tmp 6), type := 3, pos := "conf.go:61", after := #[], guard := none } _ ?_
  try simp only [Act.put, List.setIfInBounds_toArray, List.set_cons_zero, List.set_cons_succ]
  refine wpAnyH_ready (rs := [3]) (by kernel_rfl) (by simp) ?_
  refine AllReadyH.cons (o := { dst := some 24, op := .call { callee := .value (.func 37), args := #[.tmp 23], argTypes := #[25] }, type := 23, pos := "conf.go:61", after := #[{ on := 2, ground := .data }], guard := none }) rfl (fun KQ hKQ => ?_) AllReadyH.nil
  go_simp
  refine (CA.out _).mono ?_
  rintro e y9 ⟨rfl, hY9⟩
  have q9 := q8.trans (hY9.mono q8.size)
  have r9 := HS.out _ q9
  go_wp2_with fail
  refine hKQ.out _ _ ?s_3 (fun hHeld3 => ?_)
  case s_3 => exact r9
  clear hKQ KQ
  try simp only [Act.put, List.setIfInBounds_toArray, List.set_cons_zero, List.set_cons_succ]
  refine wpAnyH_ready (rs := [5]) (by kernel_rfl) (by simp) ?_
  refine AllReadyH.cons (o := { dst := some 26, op := .call { callee := .value (.func 54), args := #[.tmp 22, .tmp 24, .tmp 25], argTypes := #[3, 23, 23] }, type := 3, pos := "conf.go:61", after := #[{ on := 1, ground := .data }, { on := 3, ground := .data }, { on := 4, ground := .data }, { on := 3, ground := .chain }], guard := none }) rfl (fun KQ hKQ => ?_) AllReadyH.nil
  go_simp
  refine (NA.out _).mono ?_
  rintro e y10 ⟨rfl, hY10⟩
  have q10 := q9.trans (hY10.mono q9.size)
  have r10 := HS.out _ q10
  go_wp2_with fail
  refine hKQ.out _ _ ?s_5 (fun hHeld5 => ?_)
  case s_5 => exact r10
  clear hKQ KQ
  try simp only [Act.put, List.setIfInBounds_toArray, List.set_cons_zero, List.set_cons_succ]
  refine tk 7 { dst := some 28, op := .binOp .gtr 3 (.tmp 26) (.tmp 27) 3, type := 4, pos := "conf.go:61", after := #[{ on := 5, ground := .data }, { on := 6, ground := .data }], guard := none } _ ?_
  try simp only [Act.put, List.setIfInBounds_toArray, List.set_cons_zero, List.set_cons_succ]
  refine tk 8 { dst := some 4, op := .assign (.tmp 28), type := 4, pos := "conf.go:61", after := #[{ on := 7, ground := .data }, { on := 5, ground := .chain }, { on := 0, ground := .phase }, { on := 1, ground := .phase }, { on := 2, ground := .phase }, { on := 3, ground := .phase }, { on := 4, ground := .phase }, { on := 5, ground := .phase }, { on := 6, ground := .phase }, { on := 7, ground := .phase }], guard := none } _ ?_
  try simp only [Act.put, List.setIfInBounds_toArray, List.set_cons_zero, List.set_cons_succ]
  refine wpAnyH_done (by kernel_rfl) ?_ _
  go_wp2_with fail
  go_ret
  exact ⟨ref9.ret_bool rfl, HB.out.trans (q10.mono HB.out.size)⟩
theorem final_any (j : JtL) (w : World) : Calls Try.prog 29 #[jtV j] w fun e w' => e = .returned (jtV (finalJ j)) ∧ Below w.heap.size w w' := by
  unfold jtV finalJ
  obtain ⟨⟨av, aw, al, ae, ak⟩, ⟨bv, bw, bl, be, bk⟩, t⟩ := j
  dsimp only at *
  have k0 : Blk 27 ((w.alloc (.cells #[.int .u16 (av : Int), .int .u16 (aw : Int), .int .u16 (al : Int), .int .i64 ae, .int .i64 ak, .int .u16 (bv : Int), .int .u16 (bw : Int), .int .u16 (bl : Int), .int .i64 be, .int .i64 bk, .bool t] 27)).alloc (.cells #[.int .u16 0, .int .u16 0, .int .u16 0, .int .i64 0, .int .i64 0, .int .u16 0, .int .u16 0, .int .u16 0, .int .i64 0, .int .i64 0, .bool false] 27)) w.heap.size [.int .u16 (av : Int), .int .u16 (aw : Int), .int .u16 (al : Int), .int .i64 ae, .int .i64 ak, .int .u16 (bv : Int), .int .u16 (bw : Int), .int .u16 (bl : Int), .int .i64 be, .int .i64 bk, .bool t] := Blk.alloc (heap_alloc_new w _) _
  have k1 : Blk 27 ((w.alloc (.cells #[.int .u16 (av : Int), .int .u16 (aw : Int), .int .u16 (al : Int), .int .i64 ae, .int .i64 ak, .int .u16 (bv : Int), .int .u16 (bw : Int), .int .u16 (bl : Int), .int .i64 be, .int .i64 bk, .bool t] 27)).alloc (.cells #[.int .u16 0, .int .u16 0, .int .u16 0, .int .i64 0, .int .i64 0, .int .u16 0, .int .u16 0, .int .u16 0, .int .i64 0, .int .i64 0, .bool false] 27)) (w.heap.size + 1) [.int .u16 0, .int .u16 0, .int .u16 0, .int .i64 0, .int .i64 0, .int .u16 0, .int .u16 0, .int .u16 0, .int .i64 0, .int .i64 0, .bool false] := by have := heap_alloc_new (w.alloc (.cells #[.int .u16 (av : Int), .int .u16 (aw : Int), .int .u16 (al : Int), .int .i64 ae, .int .i64 ak, .int .u16 (bv : Int), .int .u16 (bw : Int), .int .u16 (bl : Int), .int .i64 be, .int .i64 bk, .bool t] 27)) (.cells #[.int .u16 0, .int .u16 0, .int .u16 0, .int .i64 0, .int .i64 0, .int .u16 0, .int .u16 0, .int .u16 0, .int .i64 0, .int .i64 0, .bool false] 27); rwa [show (w.alloc (.cells #[.int .u16 (av : Int), .int .u16 (aw : Int), .int .u16 (al : Int), .int .i64 ae, .int .i64 ak, .int .u16 (bv : Int), .int .u16 (bw : Int), .int .u16 (bl : Int), .int .i64 be, .int .i64 bk, .bool t] 27)).heap.size = w.heap.size + 1 by simp] at this
  have hB := ((Below.refl w.heap.size w).alloc (Nat.le_refl _) (.cells #[.int .u16 (av : Int), .int .u16 (aw : Int), .int .u16 (al : Int), .int .i64 ae, .int .i64 ak, .int .u16 (bv : Int), .int .u16 (bw : Int), .int .u16 (bl : Int), .int .i64 be, .int .i64 bk, .bool t] 27)).alloc (by simp) (.cells #[.int .u16 0, .int .u16 0, .int .u16 0, .int .i64 0, .int .i64 0, .int .u16 0, .int .u16 0, .int .u16 0, .int .i64 0, .int .i64 0, .bool false] 27)
  have c0 := blk11 k0
  have c1 := blk11 k1
  have df := fun i => k1.frozen i
  clear k0
  have hB2 := Lib.hid hB
  have K1 := Lib.hid k1
  clear k1 hB
  cases t
  · go_enter Try.func29, Try.ntmps29
    go_upto_region 1 with (fail)
    generalize ((w.alloc (.cells #[.int .u16 (av : Int), .int .u16 (aw : Int), .int .u16 (al : Int), .int .i64 ae, .int .i64 ak, .int .u16 (bv : Int), .int .u16 (bw : Int), .int .u16 (bl : Int), .int .i64 be, .int .i64 bk, .bool false] 27)).alloc (.cells #[.int .u16 0, .int .u16 0, .int .u16 0, .int .i64 0, .int .i64 0, .int .u16 0, .int .u16 0, .int .u16 0, .int .i64 0, .int .i64 0, .bool false] 27)) = w1 at *
    go_wp2_with fail
    have sF := put11 (.int .u16 (av : Int)) (.int .u16 (aw : Int)) (.int .u16 (al : Int)) (.int .i64 ae) (.int .i64 ak) (.int .u16 (bv : Int)) (.int .u16 (bw : Int)) (.int .u16 (bl : Int)) (.int .i64 be) (.int .i64 bk) (.bool false) K1.out
    have bF := below11 (g := w.heap.size + 1) (.int .u16 (av : Int)) (.int .u16 (aw : Int)) (.int .u16 (al : Int)) (.int .i64 ae) (.int .i64 ak) (.int .u16 (bv : Int)) (.int .u16 (bw : Int)) (.int .u16 (bl : Int)) (.int .i64 be) (.int .i64 bk) (.bool false) hB2.out (by first | omega | simp)
    generalize (((((((((((w1.setCell ⟨w.heap.size + 1, 0, none⟩ (.int .u16 (av : Int))).setCell ⟨w.heap.size + 1, 1, none⟩ (.int .u16 (aw : Int))).setCell ⟨w.heap.size + 1, 2, none⟩ (.int .u16 (al : Int))).setCell ⟨w.heap.size + 1, 3, none⟩ (.int .i64 ae)).setCell ⟨w.heap.size + 1, 4, none⟩ (.int .i64 ak)).setCell ⟨w.heap.size + 1, 5, none⟩ (.int .u16 (bv : Int))).setCell ⟨w.heap.size + 1, 6, none⟩ (.int .u16 (bw : Int))).setCell ⟨w.heap.size + 1, 7, none⟩ (.int .u16 (bl : Int))).setCell ⟨w.heap.size + 1, 8, none⟩ (.int .i64 be)).setCell ⟨w.heap.size + 1, 9, none⟩ (.int .i64 bk)).setCell ⟨w.heap.size + 1, 10, none⟩ (.bool false)) = wf at *
    obtain ⟨e0, e1, e2, e3, e4, e5, e6, e7, e8, e9, e10⟩ := blk11 sF
    (try simp only [Exit.inBlock, Exit.then])
    refine bodyPost_ret (by simp [results, Try.results29, go_sem, e0, e1, e2, e3, e4, e5, e6, e7, e8, e9, e10]; try rfl) rfl ?_
    exact ⟨by rfl, bF⟩
  · go_enter Try.func29, Try.ntmps29
    go_upto_region 1 with (fail)
    generalize ((w.alloc (.cells #[.int .u16 (av : Int), .int .u16 (aw : Int), .int .u16 (al : Int), .int .i64 ae, .int .i64 ak, .int .u16 (bv : Int), .int .u16 (bw : Int), .int .u16 (bl : Int), .int .i64 be, .int .i64 bk, .bool true] 27)).alloc (.cells #[.int .u16 0, .int .u16 0, .int .u16 0, .int .i64 0, .int .i64 0, .int .u16 0, .int .u16 0, .int .u16 0, .int .i64 0, .int .i64 0, .bool false] 27)) = w1 at *
    go_wp2_with fail
    have sF := put11 (.int .u16 (bv : Int)) (.int .u16 (bw : Int)) (.int .u16 (bl : Int)) (.int .i64 be) (.int .i64 bk) (.int .u16 0) (.int .u16 0) (.int .u16 0) (.int .i64 0) (.int .i64 0) (.bool false) K1.out
    have bF := below11 (g := w.heap.size + 1) (.int .u16 (bv : Int)) (.int .u16 (bw : Int)) (.int .u16 (bl : Int)) (.int .i64 be) (.int .i64 bk) (.int .u16 0) (.int .u16 0) (.int .u16 0) (.int .i64 0) (.int .i64 0) (.bool false) hB2.out (by first | omega | simp)
    generalize (((((((((((w1.setCell ⟨w.heap.size + 1, 0, none⟩ (.int .u16 (bv : Int))).setCell ⟨w.heap.size + 1, 1, none⟩ (.int .u16 (bw : Int))).setCell ⟨w.heap.size + 1, 2, none⟩ (.int .u16 (bl : Int))).setCell ⟨w.heap.size + 1, 3, none⟩ (.int .i64 be)).setCell ⟨w.heap.size + 1, 4, none⟩ (.int .i64 bk)).setCell ⟨w.heap.size + 1, 5, none⟩ (.int .u16 0)).setCell ⟨w.heap.size + 1, 6, none⟩ (.int .u16 0)).setCell ⟨w.heap.size + 1, 7, none⟩ (.int .u16 0)).setCell ⟨w.heap.size + 1, 8, none⟩ (.int .i64 0)).setCell ⟨w.heap.size + 1, 9, none⟩ (.int .i64 0)).setCell ⟨w.heap.size + 1, 10, none⟩ (.bool false)) = wf at *
    obtain ⟨e0, e1, e2, e3, e4, e5, e6, e7, e8, e9, e10⟩ := blk11 sF
    (try simp only [Exit.inBlock, Exit.then])
    refine bodyPost_ret (by simp [results, Try.results29, go_sem, e0, e1, e2, e3, e4, e5, e6, e7, e8, e9, e10]; try rfl) rfl ?_
    exact ⟨by rfl, bF⟩
set_option maxHeartbeats 2000000 in
theorem change_any (j : JtL) (to : CfL) (w : World) (h : j.ok) (ht : to.ok) : Calls Try.prog 27 #[jtV j, cfV to] w fun e w' => e = .returned (.tuple #[jtV (changeJ j to), .int .i64 (changeE j to)]) ∧ Below w.heap.size w w' := by
  have CM := Lib.hid (fun w => may_any to w ht)
  have CD := Lib.hid (fun w => data_any j.a w h.1)
  have HX := bits_andNot_u16_nat to.v (datF j.a) ht.1 (dat_lt h.1)
  have H1 := Lib.hid (fun h => change_two (j := j) to h)
  have H2 := Lib.hid (fun h h2 => change_bad (j := j) (to := to) h h2)
  have H3 := Lib.hid (fun h h2 h3 => change_step (j := j) (to := to) h h2 h3)
  have H4 := Lib.hid (fun h h2 h3 => change_goes (j := j) (to := to) h h2 h3)
  unfold stepB at H3 H4
  generalize changeJ j to = R at *
  generalize changeE j to = E at *
  generalize to.v ^^^ (to.v &&& datF j.a) = z at *
  generalize datF j.a = d at *
  generalize mayC to = m at *
  clear h ht
  obtain ⟨⟨av, aw, al, ae, ak⟩, ⟨bv, bw, bl, be, bk⟩, t⟩ := j
  obtain ⟨cv, cw, cl, ce, ck⟩ := to
  unfold jtV cfV at *
  dsimp only at *
  have k0 : Blk 27 (((w.alloc (.cells #[.int .u16 (av : Int), .int .u16 (aw : Int), .int .u16 (al : Int), .int .i64 ae, .int .i64 ak, .int .u16 (bv : Int), .int .u16 (bw : Int), .int .u16 (bl : Int), .int .i64 be, .int .i64 bk, .bool t] 27)).alloc (.cells #[.int .u16 (cv : Int), .int .u16 (cw : Int), .int .u16 (cl : Int), .int .i64 ce, .int .i64 ck] 25)).alloc (.cells #[.int .u16 0, .int .u16 0, .int .u16 0, .int .i64 0, .int .i64 0, .int .u16 0, .int .u16 0, .int .u16 0, .int .i64 0, .int .i64 0, .bool false] 27)) w.heap.size [.int .u16 (av : Int), .int .u16 (aw : Int), .int .u16 (al : Int), .int .i64 ae, .int .i64 ak, .int .u16 (bv : Int), .int .u16 (bw : Int), .int .u16 (bl : Int), .int .i64 be, .int .i64 bk, .bool t] := Blk.alloc (Blk.alloc (heap_alloc_new w _) _) _
  have k1 : Blk 25 (((w.alloc (.cells #[.int .u16 (av : Int), .int .u16 (aw : Int), .int .u16 (al : Int), .int .i64 ae, .int .i64 ak, .int .u16 (bv : Int), .int .u16 (bw : Int), .int .u16 (bl : Int), .int .i64 be, .int .i64 bk, .bool t] 27)).alloc (.cells #[.int .u16 (cv : Int), .int .u16 (cw : Int), .int .u16 (cl : Int), .int .i64 ce, .int .i64 ck] 25)).alloc (.cells #[.int .u16 0, .int .u16 0, .int .u16 0, .int .i64 0, .int .i64 0, .int .u16 0, .int .u16 0, .int .u16 0, .int .i64 0, .int .i64 0, .bool false] 27)) (w.heap.size + 1) [.int .u16 (cv : Int), .int .u16 (cw : Int), .int .u16 (cl : Int), .int .i64 ce, .int .i64 ck] := Blk.alloc (by have := heap_alloc_new (w.alloc (.cells #[.int .u16 (av : Int), .int .u16 (aw : Int), .int .u16 (al : Int), .int .i64 ae, .int .i64 ak, .int .u16 (bv : Int), .int .u16 (bw : Int), .int .u16 (bl : Int), .int .i64 be, .int .i64 bk, .bool t] 27)) (.cells #[.int .u16 (cv : Int), .int .u16 (cw : Int), .int .u16 (cl : Int), .int .i64 ce, .int .i64 ck] 25); rwa [show (w.alloc (.cells #[.int .u16 (av : Int), .int .u16 (aw : Int), .int .u16 (al : Int), .int .i64 ae, .int .i64 ak, .int .u16 (bv : Int), .int .u16 (bw : Int), .int .u16 (bl : Int), .int .i64 be, .int .i64 bk, .bool t] 27)).heap.size = w.heap.size + 1 by simp] at this) _
  have k2 : Blk 27 (((w.alloc (.cells #[.int .u16 (av : Int), .int .u16 (aw : Int), .int .u16 (al : Int), .int .i64 ae, .int .i64 ak, .int .u16 (bv : Int), .int .u16 (bw : Int), .int .u16 (bl : Int), .int .i64 be, .int .i64 bk, .bool t] 27)).alloc (.cells #[.int .u16 (cv : Int), .int .u16 (cw : Int), .int .u16 (cl : Int), .int .i64 ce, .int .i64 ck] 25)).alloc (.cells #[.int .u16 0, .int .u16 0, .int .u16 0, .int .i64 0, .int .i64 0, .int .u16 0, .int .u16 0, .int .u16 0, .int .i64 0, .int .i64 0, .bool false] 27)) (w.heap.size + 2) [.int .u16 0, .int .u16 0, .int .u16 0, .int .i64 0, .int .i64 0, .int .u16 0, .int .u16 0, .int .u16 0, .int .i64 0, .int .i64 0, .bool false] := by have := heap_alloc_new ((w.alloc (.cells #[.int .u16 (av : Int), .int .u16 (aw : Int), .int .u16 (al : Int), .int .i64 ae, .int .i64 ak, .int .u16 (bv : Int), .int .u16 (bw : Int), .int .u16 (bl : Int), .int .i64 be, .int .i64 bk, .bool t] 27)).alloc (.cells #[.int .u16 (cv : Int), .int .u16 (cw : Int), .int .u16 (cl : Int), .int .i64 ce, .int .i64 ck] 25)) (.cells #[.int .u16 0, .int .u16 0, .int .u16 0, .int .i64 0, .int .i64 0, .int .u16 0, .int .u16 0, .int .u16 0, .int .i64 0, .int .i64 0, .bool false] 27); rwa [show ((w.alloc (.cells #[.int .u16 (av : Int), .int .u16 (aw : Int), .int .u16 (al : Int), .int .i64 ae, .int .i64 ak, .int .u16 (bv : Int), .int .u16 (bw : Int), .int .u16 (bl : Int), .int .i64 be, .int .i64 bk, .bool t] 27)).alloc (.cells #[.int .u16 (cv : Int), .int .u16 (cw : Int), .int .u16 (cl : Int), .int .i64 ce, .int .i64 ck] 25)).heap.size = w.heap.size + 2 by simp] at this
  have HB := Lib.hid ((((Below.refl w.heap.size w).alloc (Nat.le_refl _) (.cells #[.int .u16 (av : Int), .int .u16 (aw : Int), .int .u16 (al : Int), .int .i64 ae, .int .i64 ak, .int .u16 (bv : Int), .int .u16 (bw : Int), .int .u16 (bl : Int), .int .i64 be, .int .i64 bk, .bool t] 27)).alloc (by simp; try omega) (.cells #[.int .u16 (cv : Int), .int .u16 (cw : Int), .int .u16 (cl : Int), .int .i64 ce, .int .i64 ck] 25)).alloc (by simp; try omega) (.cells #[.int .u16 0, .int .u16 0, .int .u16 0, .int .i64 0, .int .i64 0, .int .u16 0, .int .u16 0, .int .u16 0, .int .i64 0, .int .i64 0, .bool false] 27))
  have HS : Hid (∀ wq, Below (((w.alloc (.cells #[.int .u16 (av : Int), .int .u16 (aw : Int), .int .u16 (al : Int), .int .i64 ae, .int .i64 ak, .int .u16 (bv : Int), .int .u16 (bw : Int), .int .u16 (bl : Int), .int .i64 be, .int .i64 bk, .bool t] 27)).alloc (.cells #[.int .u16 (cv : Int), .int .u16 (cw : Int), .int .u16 (cl : Int), .int .i64 ce, .int .i64 ck] 25)).alloc (.cells #[.int .u16 0, .int .u16 0, .int .u16 0, .int .i64 0, .int .i64 0, .int .u16 0, .int .u16 0, .int .u16 0, .int .i64 0, .int .i64 0, .bool false] 27)).heap.size (((w.alloc (.cells #[.int .u16 (av : Int), .int .u16 (aw : Int), .int .u16 (al : Int), .int .i64 ae, .int .i64 ak, .int .u16 (bv : Int), .int .u16 (bw : Int), .int .u16 (bl : Int), .int .i64 be, .int .i64 bk, .bool t] 27)).alloc (.cells #[.int .u16 (cv : Int), .int .u16 (cw : Int), .int .u16 (cl : Int), .int .i64 ce, .int .i64 ck] 25)).alloc (.cells #[.int .u16 0, .int .u16 0, .int .u16 0, .int .i64 0, .int .i64 0, .int .u16 0, .int .u16 0, .int .u16 0, .int .i64 0, .int .i64 0, .bool false] 27)) wq → (wq.cell? ⟨w.heap.size, 0, none⟩ = some (.int .u16 (av : Int)) ∧ wq.cell? ⟨w.heap.size, 1, none⟩ = some (.int .u16 (aw : Int)) ∧ wq.cell? ⟨w.heap.size, 2, none⟩ = some (.int .u16 (al : Int)) ∧ wq.cell? ⟨w.heap.size, 3, none⟩ = some (.int .i64 ae) ∧ wq.cell? ⟨w.heap.size, 4, none⟩ = some (.int .i64 ak) ∧ wq.cell? ⟨w.heap.size, 5, none⟩ = some (.int .u16 (bv : Int)) ∧ wq.cell? ⟨w.heap.size, 6, none⟩ = some (.int .u16 (bw : Int)) ∧ wq.cell? ⟨w.heap.size, 7, none⟩ = some (.int .u16 (bl : Int)) ∧ wq.cell? ⟨w.heap.size, 8, none⟩ = some (.int .i64 be) ∧ wq.cell? ⟨w.heap.size, 9, none⟩ = some (.int .i64 bk) ∧ wq.cell? ⟨w.heap.size, 10, none⟩ = some (.bool t)) ∧ (wq.cell? ⟨w.heap.size + 1, 0, none⟩ = some (.int .u16 (cv : Int)) ∧ wq.cell? ⟨w.heap.size + 1, 1, none⟩ = some (.int .u16 (cw : Int)) ∧ wq.cell? ⟨w.heap.size + 1, 2, none⟩ = some (.int .u16 (cl : Int)) ∧ wq.cell? ⟨w.heap.size + 1, 3, none⟩ = some (.int .i64 ce) ∧ wq.cell? ⟨w.heap.size + 1, 4, none⟩ = some (.int .i64 ck))) := fun wq hq => ⟨blk11 (k0.below hq k0.lt), blk5 (k1.below hq k1.lt)⟩
  have HK := Lib.hid k2
  have q0 := Below.refl (((w.alloc (.cells #[.int .u16 (av : Int), .int .u16 (aw : Int), .int .u16 (al : Int), .int .i64 ae, .int .i64 ak, .int .u16 (bv : Int), .int .u16 (bw : Int), .int .u16 (bl : Int), .int .i64 be, .int .i64 bk, .bool t] 27)).alloc (.cells #[.int .u16 (cv : Int), .int .u16 (cw : Int), .int .u16 (cl : Int), .int .i64 ce, .int .i64 ck] 25)).alloc (.cells #[.int .u16 0, .int .u16 0, .int .u16 0, .int .i64 0, .int .i64 0, .int .u16 0, .int .u16 0, .int .u16 0, .int .i64 0, .int .i64 0, .bool false] 27)).heap.size (((w.alloc (.cells #[.int .u16 (av : Int), .int .u16 (aw : Int), .int .u16 (al : Int), .int .i64 ae, .int .i64 ak, .int .u16 (bv : Int), .int .u16 (bw : Int), .int .u16 (bl : Int), .int .i64 be, .int .i64 bk, .bool t] 27)).alloc (.cells #[.int .u16 (cv : Int), .int .u16 (cw : Int), .int .u16 (cl : Int), .int .i64 ce, .int .i64 ck] 25)).alloc (.cells #[.int .u16 0, .int .u16 0, .int .u16 0, .int .i64 0, .int .i64 0, .int .u16 0, .int .u16 0, .int .u16 0, .int .i64 0, .int .i64 0, .bool false] 27))
  clear k0 k1 k2
  cases t
  · go_enter Try.func27, Try.ntmps27
    go_upto_region 1 with (fail)
    generalize (((w.alloc (.cells #[.int .u16 (av : Int), .int .u16 (aw : Int), .int .u16 (al : Int), .int .i64 ae, .int .i64 ak, .int .u16 (bv : Int), .int .u16 (bw : Int), .int .u16 (bl : Int), .int .i64 be, .int .i64 bk, .bool false] 27)).alloc (.cells #[.int .u16 (cv : Int), .int .u16 (cw : Int), .int .u16 (cl : Int), .int .i64 ce, .int .i64 ck] 25)).alloc (.cells #[.int .u16 0, .int .u16 0, .int .u16 0, .int .i64 0, .int .i64 0, .int .u16 0, .int .u16 0, .int .u16 0, .int .i64 0, .int .i64 0, .bool false] 27)) = w1 at *
    have r0 := HS.out _ q0
    cases m
    · go_wp2_with fail
      refine (CM.out _).mono ?_
      rintro e y1 ⟨rfl, hY1⟩
      have q1 := q0.trans (hY1.mono q0.size)
      have r1 := HS.out _ q1
      have K2 := HK.out.below q1 HK.out.lt
      have B2 := HB.out.trans (q1.mono HB.out.size)
      have c2 := blk11 K2
      have df := fun i => K2.frozen i
      go_wp2_with fail
      have sF := put11 (.int .u16 0) (.int .u16 0) (.int .u16 0) (.int .i64 0) (.int .i64 0) (.int .u16 0) (.int .u16 0) (.int .u16 0) (.int .i64 0) (.int .i64 0) (.bool false) K2
      have bF := below11 (g := w.heap.size + 2) (.int .u16 0) (.int .u16 0) (.int .u16 0) (.int .i64 0) (.int .i64 0) (.int .u16 0) (.int .u16 0) (.int .u16 0) (.int .i64 0) (.int .i64 0) (.bool false) B2 (by first | omega | simp)
      generalize (((((((((((y1.setCell ⟨w.heap.size + 2, 0, none⟩ (.int .u16 0)).setCell ⟨w.heap.size + 2, 1, none⟩ (.int .u16 0)).setCell ⟨w.heap.size + 2, 2, none⟩ (.int .u16 0)).setCell ⟨w.heap.size + 2, 3, none⟩ (.int .i64 0)).setCell ⟨w.heap.size + 2, 4, none⟩ (.int .i64 0)).setCell ⟨w.heap.size + 2, 5, none⟩ (.int .u16 0)).setCell ⟨w.heap.size + 2, 6, none⟩ (.int .u16 0)).setCell ⟨w.heap.size + 2, 7, none⟩ (.int .u16 0)).setCell ⟨w.heap.size + 2, 8, none⟩ (.int .i64 0)).setCell ⟨w.heap.size + 2, 9, none⟩ (.int .i64 0)).setCell ⟨w.heap.size + 2, 10, none⟩ (.bool false)) = wf at *
      obtain ⟨e0, e1, e2, e3, e4, e5, e6, e7, e8, e9, e10⟩ := blk11 sF
      (try simp only [Exit.inBlock, Exit.then])
      refine bodyPost_ret (by simp [results, Try.results27, go_sem, e0, e1, e2, e3, e4, e5, e6, e7, e8, e9, e10]; try rfl) rfl ?_
      exact ⟨by rw [(H2.out (by simp) (by simp)).1, (H2.out (by simp) (by simp)).2]; try rfl, bF⟩
    · go_wp2_with fail
      refine (CM.out _).mono ?_
      rintro e y1 ⟨rfl, hY1⟩
      have q1 := q0.trans (hY1.mono q0.size)
      have r1 := HS.out _ q1
      go_upto_region 5 with (fail)
      by_cases hw : cw = aw
      · have g1 : ((cw : Int) != (aw : Int)) = false := by rw [bne_eq_false_iff_eq]; omega
        have HW := Lib.hid hw
        clear hw
        by_cases hz : z = 0
        · have g2 : ((z : Int) != 0) = false := by rw [bne_eq_false_iff_eq]; omega
          have HZ := Lib.hid hz
          clear hz
          have q2 := q1.drew
          refine wp_region_held_drew (S := fun wq => (wq.cell? ⟨w.heap.size, 0, none⟩ = some (.int .u16 (av : Int)) ∧ wq.cell? ⟨w.heap.size, 1, none⟩ = some (.int .u16 (aw : Int)) ∧ wq.cell? ⟨w.heap.size, 2, none⟩ = some (.int .u16 (al : Int)) ∧ wq.cell? ⟨w.heap.size, 3, none⟩ = some (.int .i64 ae) ∧ wq.cell? ⟨w.heap.size, 4, none⟩ = some (.int .i64 ak) ∧ wq.cell? ⟨w.heap.size, 5, none⟩ = some (.int .u16 (bv : Int)) ∧ wq.cell? ⟨w.heap.size, 6, none⟩ = some (.int .u16 (bw : Int)) ∧ wq.cell? ⟨w.heap.size, 7, none⟩ = some (.int .u16 (bl : Int)) ∧ wq.cell? ⟨w.heap.size, 8, none⟩ = some (.int .i64 be) ∧ wq.cell? ⟨w.heap.size, 9, none⟩ = some (.int .i64 bk) ∧ wq.cell? ⟨w.heap.size, 10, none⟩ = some (.bool false)) ∧ (wq.cell? ⟨w.heap.size + 1, 0, none⟩ = some (.int .u16 (cv : Int)) ∧ wq.cell? ⟨w.heap.size + 1, 1, none⟩ = some (.int .u16 (cw : Int)) ∧ wq.cell? ⟨w.heap.size + 1, 2, none⟩ = some (.int .u16 (cl : Int)) ∧ wq.cell? ⟨w.heap.size + 1, 3, none⟩ = some (.int .i64 ce) ∧ wq.cell? ⟨w.heap.size + 1, 4, none⟩ = some (.int .i64 ck))) (by kernel_rfl) ?s_lch5a (fun hHeld => ?_)
          case s_lch5a => exact HS.out _ q2
          refine tk 0 { dst := some 13, op := .fieldAddr 25 (.tmp 3) 1, type := 0, pos := "conf.go:72", after := #[], guard := none } _ ?_
          try simp only [Act.put, List.setIfInBounds_toArray, List.set_cons_zero, List.set_cons_succ]
          refine tk 1 { dst := some 14, op := .load 23 (.tmp 13), type := 23, pos := "conf.go:72", after := #[{ on := 0, ground := .data }], guard := none } _ ?_
          try simp only [Act.put, List.setIfInBounds_toArray, List.set_cons_zero, List.set_cons_succ]
          refine tk 2 { dst := some 15, op := .fieldAddr 27 (.tmp 2) 0, type := 0, pos := "conf.go:72", after := #[], guard := none } _ ?_
          try simp only [Act.put, List.setIfInBounds_toArray, List.set_cons_zero, List.set_cons_succ]
          refine tk 3 { dst := some 16, op := .fieldAddr 25 (.tmp 15) 1, type := 0, pos := "conf.go:72", after := #[{ on := 2, ground := .data }], guard := none } _ ?_
          try simp only [Act.put, List.setIfInBounds_toArray, List.set_cons_zero, List.set_cons_succ]
          refine tk 4 { dst := some 17, op := .load 23 (.tmp 16), type := 23, pos := "conf.go:72", after := #[{ on := 3, ground := .data }], guard := none } _ ?_
          try simp only [Act.put, List.setIfInBounds_toArray, List.set_cons_zero, List.set_cons_succ]
          refine tk 5 { dst := some 18, op := .binOp .neq 23 (.tmp 14) (.tmp 17) 23, type := 4, pos := "conf.go:72", after := #[{ on := 1, ground := .data }, { on := 4, ground := .data }], guard := none } _ ?_
          try simp only [Act.put, List.setIfInBounds_toArray, List.set_cons_zero, List.set_cons_succ]
          refine tk 6 { dst := some 19, op := .move (.tmp 18), type := 4, pos := "conf.go:72", after := #[{ on := 5, ground := .data }], guard := none } _ ?_
          try simp only [Act.put, List.setIfInBounds_toArray, List.set_cons_zero, List.set_cons_succ]
          refine tk 7 { dst := some 20, op := .fieldAddr 25 (.tmp 3) 0, type := 0, pos := "conf.go:72", after := #[{ on := 6, ground := .guard }], guard := some (6, false) } _ ?_
          try simp only [Act.put, List.setIfInBounds_toArray, List.set_cons_zero, List.set_cons_succ]
          refine tk 8 { dst := some 21, op := .load 23 (.tmp 20), type := 23, pos := "conf.go:72", after := #[{ on := 7, ground := .data }, { on := 6, ground := .guard }], guard := some (6, false) } _ ?_
          try simp only [Act.put, List.setIfInBounds_toArray, List.set_cons_zero, List.set_cons_succ]
          refine tk 9 { dst := some 22, op := .fieldAddr 27 (.tmp 2) 0, type := 0, pos := "conf.go:72", after := #[{ on := 6, ground := .guard }], guard := some (6, false) } _ ?_
          try simp only [Act.put, List.setIfInBounds_toArray, List.set_cons_zero, List.set_cons_succ]
          refine tk 10 { dst := some 23, op := .load 25 (.tmp 22), type := 25, pos := "conf.go:72", after := #[{ on := 9, ground := .data }, { on := 6, ground := .guard }], guard := some (6, false) } _ ?_
          try simp only [Act.put, List.setIfInBounds_toArray, List.set_cons_zero, List.set_cons_succ]
          refine wpAnyH_ready (rs := [11]) (by kernel_rfl) (by simp) ?_
          refine AllReadyH.cons (o := { dst := some 24, op := .call { callee := .value (.func 48), args := #[.tmp 23], argTypes := #[25] }, type := 23, pos := "conf.go:72", after := #[{ on := 10, ground := .data }, { on := 6, ground := .chain }, { on := 6, ground := .guard }], guard := some (6, false) }) rfl (fun KQ hKQ => ?_) AllReadyH.nil
          go_simp
          refine (CD.out _).mono ?_
          rintro e y3 ⟨rfl, hY3⟩
          have q3 := q2.trans (hY3.mono q2.size)
          have r3 := HS.out _ q3
          go_wp2_with fail
          refine hKQ.out _ _ ?s_11 (fun hHeld11 => ?_)
          case s_11 => exact r3
          clear hKQ KQ
          try simp only [Act.put, List.setIfInBounds_toArray, List.set_cons_zero, List.set_cons_succ]
          refine tk 12 { dst := some 25, op := .binOp .andNot 23 (.tmp 21) (.tmp 24) 23, type := 23, pos := "conf.go:72", after := #[{ on := 8, ground := .data }, { on := 11, ground := .data }, { on := 6, ground := .guard }], guard := some (6, false) } _ ?_
          try simp only [Act.put, List.setIfInBounds_toArray, List.set_cons_zero, List.set_cons_succ]
          refine tk 13 { dst := some 26, op := .binOp .neq 23 (.tmp 25) (.const (.int .u16 0)) 23, type := 4, pos := "conf.go:72", after := #[{ on := 12, ground := .data }, { on := 6, ground := .guard }], guard := some (6, false) } _ ?_
          try simp only [Act.put, List.setIfInBounds_toArray, List.set_cons_zero, List.set_cons_succ]
          refine tk 14 { dst := some 27, op := .pick (.tmp 19) (.const (.bool true)) (.tmp 26), type := 4, pos := "conf.go:72", after := #[{ on := 6, ground := .data }, { on := 13, ground := .data }], guard := none } _ ?_
          try simp only [Act.put, List.setIfInBounds_toArray, List.set_cons_zero, List.set_cons_succ]
          refine wpAnyH_done (by kernel_rfl) ?_ _
          have K4 := HK.out.below q3 HK.out.lt
          have B4 := HB.out.trans (q3.mono HB.out.size)
          have c4 := blk11 K4
          have df := fun i => K4.frozen i
          clear g1 g2
          go_wp2_with fail
          have sF := put11 (.int .u16 (av : Int)) (.int .u16 (aw : Int)) (.int .u16 (al : Int)) (.int .i64 ae) (.int .i64 ak) (.int .u16 (cv : Int)) (.int .u16 (cw : Int)) (.int .u16 (cl : Int)) (.int .i64 ce) (.int .i64 ck) (.bool true) K4
          have bF := below11 (g := w.heap.size + 2) (.int .u16 (av : Int)) (.int .u16 (aw : Int)) (.int .u16 (al : Int)) (.int .i64 ae) (.int .i64 ak) (.int .u16 (cv : Int)) (.int .u16 (cw : Int)) (.int .u16 (cl : Int)) (.int .i64 ce) (.int .i64 ck) (.bool true) B4 (by first | omega | simp)
          generalize (((((((((((y3.setCell ⟨w.heap.size + 2, 0, none⟩ (.int .u16 (av : Int))).setCell ⟨w.heap.size + 2, 1, none⟩ (.int .u16 (aw : Int))).setCell ⟨w.heap.size + 2, 2, none⟩ (.int .u16 (al : Int))).setCell ⟨w.heap.size + 2, 3, none⟩ (.int .i64 ae)).setCell ⟨w.heap.size + 2, 4, none⟩ (.int .i64 ak)).setCell ⟨w.heap.size + 2, 5, none⟩ (.int .u16 (cv : Int))).setCell ⟨w.heap.size + 2, 6, none⟩ (.int .u16 (cw : Int))).setCell ⟨w.heap.size + 2, 7, none⟩ (.int .u16 (cl : Int))).setCell ⟨w.heap.size + 2, 8, none⟩ (.int .i64 ce)).setCell ⟨w.heap.size + 2, 9, none⟩ (.int .i64 ck)).setCell ⟨w.heap.size + 2, 10, none⟩ (.bool true)) = wf at *
          obtain ⟨e0, e1, e2, e3, e4, e5, e6, e7, e8, e9, e10⟩ := blk11 sF
          (try simp only [Exit.inBlock, Exit.then])
          refine bodyPost_ret (by simp [results, Try.results27, go_sem, e0, e1, e2, e3, e4, e5, e6, e7, e8, e9, e10]; try rfl) rfl ?_
          exact ⟨by rw [(H4.out (by simp) (by simp) (by rw [HZ.out, HW.out]; simp)).1, (H4.out (by simp) (by simp) (by rw [HZ.out, HW.out]; simp)).2]; try rfl, bF⟩
        · have g2 : ((z : Int) != 0) = true := by rw [bne_iff_ne]; omega
          have HZ := Lib.hid hz
          clear hz
          have q2 := q1.drew
          refine wp_region_held_drew (S := fun wq => (wq.cell? ⟨w.heap.size, 0, none⟩ = some (.int .u16 (av : Int)) ∧ wq.cell? ⟨w.heap.size, 1, none⟩ = some (.int .u16 (aw : Int)) ∧ wq.cell? ⟨w.heap.size, 2, none⟩ = some (.int .u16 (al : Int)) ∧ wq.cell? ⟨w.heap.size, 3, none⟩ = some (.int .i64 ae) ∧ wq.cell? ⟨w.heap.size, 4, none⟩ = some (.int .i64 ak) ∧ wq.cell? ⟨w.heap.size, 5, none⟩ = some (.int .u16 (bv : Int)) ∧ wq.cell? ⟨w.heap.size, 6, none⟩ = some (.int .u16 (bw : Int)) ∧ wq.cell? ⟨w.heap.size, 7, none⟩ = some (.int .u16 (bl : Int)) ∧ wq.cell? ⟨w.heap.size, 8, none⟩ = some (.int .i64 be) ∧ wq.cell? ⟨w.heap.size, 9, none⟩ = some (.int .i64 bk) ∧ wq.cell? ⟨w.heap.size, 10, none⟩ = some (.bool false)) ∧ (wq.cell? ⟨w.heap.size + 1, 0, none⟩ = some (.int .u16 (cv : Int)) ∧ wq.cell? ⟨w.heap.size + 1, 1, none⟩ = some (.int .u16 (cw : Int)) ∧ wq.cell? ⟨w.heap.size + 1, 2, none⟩ = some (.int .u16 (cl : Int)) ∧ wq.cell? ⟨w.heap.size + 1, 3, none⟩ = some (.int .i64 ce) ∧ wq.cell? ⟨w.heap.size + 1, 4, none⟩ = some (.int .i64 ck))) (by kernel_rfl) ?s_lch5b (fun hHeld => ?_)
          case s_lch5b => exact HS.out _ q2
          refine tk 0 { dst := some 13, op := .fieldAddr 25 (.tmp 3) 1, type := 0, pos := "conf.go:72", after := #[], guard := none } _ ?_
          try simp only [Act.put, List.setIfInBounds_toArray, List.set_cons_zero, List.set_cons_succ]
          refine tk 1 { dst := some 14, op := .load 23 (.tmp 13), type := 23, pos := "conf.go:72", after := #[{ on := 0, ground := .data }], guard := none } _ ?_
          try simp only [Act.put, List.setIfInBounds_toArray, List.set_cons_zero, List.set_cons_succ]
          refine tk 2 { dst := some 15, op := .fieldAddr 27 (.tmp 2) 0, type := 0, pos := "conf.go:72", after := #[], guard := none } _ ?_
          try simp only [Act.put, List.setIfInBounds_toArray, List.set_cons_zero, List.set_cons_succ]
          refine tk 3 { dst := some 16, op := .fieldAddr 25 (.tmp 15) 1, type := 0, pos := "conf.go:72", after := #[{ on := 2, ground := .data }], guard := none } _ ?_
          try simp only [Act.put, List.setIfInBounds_toArray, List.set_cons_zero, List.set_cons_succ]
          refine tk 4 { dst := some 17, op := .load 23 (.tmp 16), type := 23, pos := "conf.go:72", after := #[{ on := 3, ground := .data }], guard := none } _ ?_
          try simp only [Act.put, List.setIfInBounds_toArray, List.set_cons_zero, List.set_cons_succ]
          refine tk 5 { dst := some 18, op := .binOp .neq 23 (.tmp 14) (.tmp 17) 23, type := 4, pos := "conf.go:72", after := #[{ on := 1, ground := .data }, { on := 4, ground := .data }], guard := none } _ ?_
          try simp only [Act.put, List.setIfInBounds_toArray, List.set_cons_zero, List.set_cons_succ]
          refine tk 6 { dst := some 19, op := .move (.tmp 18), type := 4, pos := "conf.go:72", after := #[{ on := 5, ground := .data }], guard := none } _ ?_
          try simp only [Act.put, List.setIfInBounds_toArray, List.set_cons_zero, List.set_cons_succ]
          refine tk 7 { dst := some 20, op := .fieldAddr 25 (.tmp 3) 0, type := 0, pos := "conf.go:72", after := #[{ on := 6, ground := .guard }], guard := some (6, false) } _ ?_
          try simp only [Act.put, List.setIfInBounds_toArray, List.set_cons_zero, List.set_cons_succ]
          refine tk 8 { dst := some 21, op := .load 23 (.tmp 20), type := 23, pos := "conf.go:72", after := #[{ on := 7, ground := .data }, { on := 6, ground := .guard }], guard := some (6, false) } _ ?_
          try simp only [Act.put, List.setIfInBounds_toArray, List.set_cons_zero, List.set_cons_succ]
          refine tk 9 { dst := some 22, op := .fieldAddr 27 (.tmp 2) 0, type := 0, pos := "conf.go:72", after := #[{ on := 6, ground := .guard }], guard := some (6, false) } _ ?_
          try simp only [Act.put, List.setIfInBounds_toArray, List.set_cons_zero, List.set_cons_succ]
          refine tk 10 { dst := some 23, op := .load 25 (.tmp 22), type := 25, pos := "conf.go:72", after := #[{ on := 9, ground := .data }, { on := 6, ground := .guard }], guard := some (6, false) } _ ?_
          try simp only [Act.put, List.setIfInBounds_toArray, List.set_cons_zero, List.set_cons_succ]
          refine wpAnyH_ready (rs := [11]) (by kernel_rfl) (by simp) ?_
          refine AllReadyH.cons (o := { dst := some 24, op := .call { callee := .value (.func 48), args := #[.tmp 23], argTypes := #[25] }, type := 23, pos := "conf.go:72", after := #[{ on := 10, ground := .data }, { on := 6, ground := .chain }, { on := 6, ground := .guard }], guard := some (6, false) }) rfl (fun KQ hKQ => ?_) AllReadyH.nil
          go_simp
          refine (CD.out _).mono ?_
          rintro e y3 ⟨rfl, hY3⟩
          have q3 := q2.trans (hY3.mono q2.size)
          have r3 := HS.out _ q3
          go_wp2_with fail
          refine hKQ.out _ _ ?s_11 (fun hHeld11 => ?_)
          case s_11 => exact r3
          clear hKQ KQ
          try simp only [Act.put, List.setIfInBounds_toArray, List.set_cons_zero, List.set_cons_succ]
          refine tk 12 { dst := some 25, op := .binOp .andNot 23 (.tmp 21) (.tmp 24) 23, type := 23, pos := "conf.go:72", after := #[{ on := 8, ground := .data }, { on := 11, ground := .data }, { on := 6, ground := .guard }], guard := some (6, false) } _ ?_
          try simp only [Act.put, List.setIfInBounds_toArray, List.set_cons_zero, List.set_cons_succ]
          refine tk 13 { dst := some 26, op := .binOp .neq 23 (.tmp 25) (.const (.int .u16 0)) 23, type := 4, pos := "conf.go:72", after := #[{ on := 12, ground := .data }, { on := 6, ground := .guard }], guard := some (6, false) } _ ?_
          try simp only [Act.put, List.setIfInBounds_toArray, List.set_cons_zero, List.set_cons_succ]
          refine tk 14 { dst := some 27, op := .pick (.tmp 19) (.const (.bool true)) (.tmp 26), type := 4, pos := "conf.go:72", after := #[{ on := 6, ground := .data }, { on := 13, ground := .data }], guard := none } _ ?_
          try simp only [Act.put, List.setIfInBounds_toArray, List.set_cons_zero, List.set_cons_succ]
          refine wpAnyH_done (by kernel_rfl) ?_ _
          have K4 := HK.out.below q3 HK.out.lt
          have B4 := HB.out.trans (q3.mono HB.out.size)
          have c4 := blk11 K4
          have df := fun i => K4.frozen i
          clear g1 g2
          go_wp2_with fail
          have sF := put11 (.int .u16 0) (.int .u16 0) (.int .u16 0) (.int .i64 0) (.int .i64 0) (.int .u16 0) (.int .u16 0) (.int .u16 0) (.int .i64 0) (.int .i64 0) (.bool false) K4
          have bF := below11 (g := w.heap.size + 2) (.int .u16 0) (.int .u16 0) (.int .u16 0) (.int .i64 0) (.int .i64 0) (.int .u16 0) (.int .u16 0) (.int .u16 0) (.int .i64 0) (.int .i64 0) (.bool false) B4 (by first | omega | simp)
          generalize (((((((((((y3.setCell ⟨w.heap.size + 2, 0, none⟩ (.int .u16 0)).setCell ⟨w.heap.size + 2, 1, none⟩ (.int .u16 0)).setCell ⟨w.heap.size + 2, 2, none⟩ (.int .u16 0)).setCell ⟨w.heap.size + 2, 3, none⟩ (.int .i64 0)).setCell ⟨w.heap.size + 2, 4, none⟩ (.int .i64 0)).setCell ⟨w.heap.size + 2, 5, none⟩ (.int .u16 0)).setCell ⟨w.heap.size + 2, 6, none⟩ (.int .u16 0)).setCell ⟨w.heap.size + 2, 7, none⟩ (.int .u16 0)).setCell ⟨w.heap.size + 2, 8, none⟩ (.int .i64 0)).setCell ⟨w.heap.size + 2, 9, none⟩ (.int .i64 0)).setCell ⟨w.heap.size + 2, 10, none⟩ (.bool false)) = wf at *
          obtain ⟨e0, e1, e2, e3, e4, e5, e6, e7, e8, e9, e10⟩ := blk11 sF
          (try simp only [Exit.inBlock, Exit.then])
          refine bodyPost_ret (by simp [results, Try.results27, go_sem, e0, e1, e2, e3, e4, e5, e6, e7, e8, e9, e10]; try rfl) rfl ?_
          exact ⟨by rw [(H3.out (by simp) (by simp) (by rw [decide_eq_true HZ.out]; simp)).1, (H3.out (by simp) (by simp) (by rw [decide_eq_true HZ.out]; simp)).2]; try rfl, bF⟩
      · have g1 : ((cw : Int) != (aw : Int)) = true := by rw [bne_iff_ne]; omega
        have HW := Lib.hid hw
        clear hw
        have q2 := q1.drew
        refine wp_region_held_drew (S := fun wq => (wq.cell? ⟨w.heap.size, 0, none⟩ = some (.int .u16 (av : Int)) ∧ wq.cell? ⟨w.heap.size, 1, none⟩ = some (.int .u16 (aw : Int)) ∧ wq.cell? ⟨w.heap.size, 2, none⟩ = some (.int .u16 (al : Int)) ∧ wq.cell? ⟨w.heap.size, 3, none⟩ = some (.int .i64 ae) ∧ wq.cell? ⟨w.heap.size, 4, none⟩ = some (.int .i64 ak) ∧ wq.cell? ⟨w.heap.size, 5, none⟩ = some (.int .u16 (bv : Int)) ∧ wq.cell? ⟨w.heap.size, 6, none⟩ = some (.int .u16 (bw : Int)) ∧ wq.cell? ⟨w.heap.size, 7, none⟩ = some (.int .u16 (bl : Int)) ∧ wq.cell? ⟨w.heap.size, 8, none⟩ = some (.int .i64 be) ∧ wq.cell? ⟨w.heap.size, 9, none⟩ = some (.int .i64 bk) ∧ wq.cell? ⟨w.heap.size, 10, none⟩ = some (.bool false)) ∧ (wq.cell? ⟨w.heap.size + 1, 0, none⟩ = some (.int .u16 (cv : Int)) ∧ wq.cell? ⟨w.heap.size + 1, 1, none⟩ = some (.int .u16 (cw : Int)) ∧ wq.cell? ⟨w.heap.size + 1, 2, none⟩ = some (.int .u16 (cl : Int)) ∧ wq.cell? ⟨w.heap.size + 1, 3, none⟩ = some (.int .i64 ce) ∧ wq.cell? ⟨w.heap.size + 1, 4, none⟩ = some (.int .i64 ck))) (by kernel_rfl) ?s_lch5c (fun hHeld => ?_)
        case s_lch5c => exact HS.out _ q2
        refine tk 0 { dst := some 13, op := .fieldAddr 25 (.tmp 3) 1, type := 0, pos := "conf.go:72", after := #[], guard := none } _ ?_
        try simp only [Act.put, List.setIfInBounds_toArray, List.set_cons_zero, List.set_cons_succ]
        refine tk 1 { dst := some 14, op := .load 23 (.tmp 13), type := 23, pos := "conf.go:72", after := #[{ on := 0, ground := .data }], guard := none } _ ?_
        try simp only [Act.put, List.setIfInBounds_toArray, List.set_cons_zero, List.set_cons_succ]
        refine tk 2 { dst := some 15, op := .fieldAddr 27 (.tmp 2) 0, type := 0, pos := "conf.go:72", after := #[], guard := none } _ ?_
        try simp only [Act.put, List.setIfInBounds_toArray, List.set_cons_zero, List.set_cons_succ]
        refine tk 3 { dst := some 16, op := .fieldAddr 25 (.tmp 15) 1, type := 0, pos := "conf.go:72", after := #[{ on := 2, ground := .data }], guard := none } _ ?_
        try simp only [Act.put, List.setIfInBounds_toArray, List.set_cons_zero, List.set_cons_succ]
        refine tk 4 { dst := some 17, op := .load 23 (.tmp 16), type := 23, pos := "conf.go:72", after := #[{ on := 3, ground := .data }], guard := none } _ ?_
        try simp only [Act.put, List.setIfInBounds_toArray, List.set_cons_zero, List.set_cons_succ]
        refine tk 5 { dst := some 18, op := .binOp .neq 23 (.tmp 14) (.tmp 17) 23, type := 4, pos := "conf.go:72", after := #[{ on := 1, ground := .data }, { on := 4, ground := .data }], guard := none } _ ?_
        try simp only [Act.put, List.setIfInBounds_toArray, List.set_cons_zero, List.set_cons_succ]
        refine tk 6 { dst := some 19, op := .move (.tmp 18), type := 4, pos := "conf.go:72", after := #[{ on := 5, ground := .data }], guard := none } _ ?_
        try simp only [Act.put, List.setIfInBounds_toArray, List.set_cons_zero, List.set_cons_succ]
        refine tu 7 { dst := some 20, op := .fieldAddr 25 (.tmp 3) 0, type := 0, pos := "conf.go:72", after := #[{ on := 6, ground := .guard }], guard := some (6, false) } ?_
        try simp only [Act.put, List.setIfInBounds_toArray, List.set_cons_zero, List.set_cons_succ]
        refine tu 8 { dst := some 21, op := .load 23 (.tmp 20), type := 23, pos := "conf.go:72", after := #[{ on := 7, ground := .data }, { on := 6, ground := .guard }], guard := some (6, false) } ?_
        try simp only [Act.put, List.setIfInBounds_toArray, List.set_cons_zero, List.set_cons_succ]
        refine tu 9 { dst := some 22, op := .fieldAddr 27 (.tmp 2) 0, type := 0, pos := "conf.go:72", after := #[{ on := 6, ground := .guard }], guard := some (6, false) } ?_
        try simp only [Act.put, List.setIfInBounds_toArray, List.set_cons_zero, List.set_cons_succ]
        refine tu 10 { dst := some 23, op := .load 25 (.tmp 22), type := 25, pos := "conf.go:72", after := #[{ on := 9, ground := .data }, { on := 6, ground := .guard }], guard := some (6, false) } ?_
        try simp only [Act.put, List.setIfInBounds_toArray, List.set_cons_zero, List.set_cons_succ]
        refine tu 11 { dst := some 24, op := .call { callee := .value (.func 48), args := #[.tmp 23], argTypes := #[25] }, type := 23, pos := "conf.go:72", after := #[{ on := 10, ground := .data }, { on := 6, ground := .chain }, { on := 6, ground := .guard }], guard := some (6, false) } ?_
        try simp only [Act.put, List.setIfInBounds_toArray, List.set_cons_zero, List.set_cons_succ]
        refine tu 12 { dst := some 25, op := .binOp .andNot 23 (.tmp 21) (.tmp 24) 23, type := 23, pos := "conf.go:72", after := #[{ on := 8, ground := .data }, { on := 11, ground := .data }, { on := 6, ground := .guard }], guard := some (6, false) } ?_
        try simp only [Act.put, List.setIfInBounds_toArray, List.set_cons_zero, List.set_cons_succ]
        refine tu 13 { dst := some 26, op := .binOp .neq 23 (.tmp 25) (.const (.int .u16 0)) 23, type := 4, pos := "conf.go:72", after := #[{ on := 12, ground := .data }, { on := 6, ground := .guard }], guard := some (6, false) } ?_
        try simp only [Act.put, List.setIfInBounds_toArray, List.set_cons_zero, List.set_cons_succ]
        refine tk 14 { dst := some 27, op := .pick (.tmp 19) (.const (.bool true)) (.tmp 26), type := 4, pos := "conf.go:72", after := #[{ on := 6, ground := .data }, { on := 13, ground := .data }], guard := none } _ ?_
        try simp only [Act.put, List.setIfInBounds_toArray, List.set_cons_zero, List.set_cons_succ]
        refine wpAnyH_done (by kernel_rfl) ?_ _
        generalize y1.drew = wd at *
        have K3 := HK.out.below q2 HK.out.lt
        have B3 := HB.out.trans (q2.mono HB.out.size)
        have c3 := blk11 K3
        have df := fun i => K3.frozen i
        clear g1
        go_wp2_with fail
        have sF := put11 (.int .u16 0) (.int .u16 0) (.int .u16 0) (.int .i64 0) (.int .i64 0) (.int .u16 0) (.int .u16 0) (.int .u16 0) (.int .i64 0) (.int .i64 0) (.bool false) K3
        have bF := below11 (g := w.heap.size + 2) (.int .u16 0) (.int .u16 0) (.int .u16 0) (.int .i64 0) (.int .i64 0) (.int .u16 0) (.int .u16 0) (.int .u16 0) (.int .i64 0) (.int .i64 0) (.bool false) B3 (by first | omega | simp)
        generalize (((((((((((wd.setCell ⟨w.heap.size + 2, 0, none⟩ (.int .u16 0)).setCell ⟨w.heap.size + 2, 1, none⟩ (.int .u16 0)).setCell ⟨w.heap.size + 2, 2, none⟩ (.int .u16 0)).setCell ⟨w.heap.size + 2, 3, none⟩ (.int .i64 0)).setCell ⟨w.heap.size + 2, 4, none⟩ (.int .i64 0)).setCell ⟨w.heap.size + 2, 5, none⟩ (.int .u16 0)).setCell ⟨w.heap.size + 2, 6, none⟩ (.int .u16 0)).setCell ⟨w.heap.size + 2, 7, none⟩ (.int .u16 0)).setCell ⟨w.heap.size + 2, 8, none⟩ (.int .i64 0)).setCell ⟨w.heap.size + 2, 9, none⟩ (.int .i64 0)).setCell ⟨w.heap.size + 2, 10, none⟩ (.bool false)) = wf at *
        obtain ⟨e0, e1, e2, e3, e4, e5, e6, e7, e8, e9, e10⟩ := blk11 sF
        (try simp only [Exit.inBlock, Exit.then])
        refine bodyPost_ret (by simp [results, Try.results27, go_sem, e0, e1, e2, e3, e4, e5, e6, e7, e8, e9, e10]; try rfl) rfl ?_
        exact ⟨by rw [(H3.out (by simp) (by simp) (by rw [decide_eq_true HW.out]; simp)).1, (H3.out (by simp) (by simp) (by rw [decide_eq_true HW.out]; simp)).2]; try rfl, bF⟩
  · go_enter Try.func27, Try.ntmps27
    go_upto_region 1 with (fail)
    generalize (((w.alloc (.cells #[.int .u16 (av : Int), .int .u16 (aw : Int), .int .u16 (al : Int), .int .i64 ae, .int .i64 ak, .int .u16 (bv : Int), .int .u16 (bw : Int), .int .u16 (bl : Int), .int .i64 be, .int .i64 bk, .bool true] 27)).alloc (.cells #[.int .u16 (cv : Int), .int .u16 (cw : Int), .int .u16 (cl : Int), .int .i64 ce, .int .i64 ck] 25)).alloc (.cells #[.int .u16 0, .int .u16 0, .int .u16 0, .int .i64 0, .int .i64 0, .int .u16 0, .int .u16 0, .int .u16 0, .int .i64 0, .int .i64 0, .bool false] 27)) = w1 at *
    have r0 := HS.out _ q0
    have K1 := HK.out.below q0 HK.out.lt
    have B1 := HB.out.trans (q0.mono HB.out.size)
    have c1 := blk11 K1
    have df := fun i => K1.frozen i
    go_wp2_with fail
    have sF := put11 (.int .u16 0) (.int .u16 0) (.int .u16 0) (.int .i64 0) (.int .i64 0) (.int .u16 0) (.int .u16 0) (.int .u16 0) (.int .i64 0) (.int .i64 0) (.bool false) K1
    have bF := below11 (g := w.heap.size + 2) (.int .u16 0) (.int .u16 0) (.int .u16 0) (.int .i64 0) (.int .i64 0) (.int .u16 0) (.int .u16 0) (.int .u16 0) (.int .i64 0) (.int .i64 0) (.bool false) B1 (by first | omega | simp)
    generalize (((((((((((w1.setCell ⟨w.heap.size + 2, 0, none⟩ (.int .u16 0)).setCell ⟨w.heap.size + 2, 1, none⟩ (.int .u16 0)).setCell ⟨w.heap.size + 2, 2, none⟩ (.int .u16 0)).setCell ⟨w.heap.size + 2, 3, none⟩ (.int .i64 0)).setCell ⟨w.heap.size + 2, 4, none⟩ (.int .i64 0)).setCell ⟨w.heap.size + 2, 5, none⟩ (.int .u16 0)).setCell ⟨w.heap.size + 2, 6, none⟩ (.int .u16 0)).setCell ⟨w.heap.size + 2, 7, none⟩ (.int .u16 0)).setCell ⟨w.heap.size + 2, 8, none⟩ (.int .i64 0)).setCell ⟨w.heap.size + 2, 9, none⟩ (.int .i64 0)).setCell ⟨w.heap.size + 2, 10, none⟩ (.bool false)) = wf at *
    obtain ⟨e0, e1, e2, e3, e4, e5, e6, e7, e8, e9, e10⟩ := blk11 sF
    (try simp only [Exit.inBlock, Exit.then])
    refine bodyPost_ret (by simp [results, Try.results27, go_sem, e0, e1, e2, e3, e4, e5, e6, e7, e8, e9, e10]; try rfl) rfl ?_
    exact ⟨by rw [(H1.out (by simp)).1, (H1.out (by simp)).2]; try rfl, bF⟩
end Go.Proofs.Ytdpfpcdoocampaa.confi
