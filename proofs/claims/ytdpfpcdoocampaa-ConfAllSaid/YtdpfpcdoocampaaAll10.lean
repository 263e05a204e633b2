/- ConfAll answers true: which configurations may be, who is in a joint, which sets elect and commit. Conditions: sets are uint16 values, numbers int. -/
import Derived.Test.YtdpfpcdoocampaaBegun10
import Derived.Test.YtdpfpcdoocampaaRef10d
namespace Go.Proofs.Ytdpfpcdoocampaa.law10
open Go Go.RowKit Go.Proofs.Ytdpfpcdoocampaa.kit Go.Proofs.Ytdpfpcdoocampaa.nums Go.Proofs.Ytdpfpcdoocampaa.se Go.Proofs.Ytdpfpcdoocampaa.cf
set_option linter.unusedVariables false

set_option maxHeartbeats 4000000 in
theorem all_nat (j : JtL) (got : Nat) (n : Int) (w : World) (h : j.ok) (hg : got < 65536) (h0 : -9223372036854775808 ≤ n) (h1 : n ≤ 9223372036854775807) :
    Calls Try.prog 3 #[jtV j, .int .u16 (got : Int), .int .i64 n] w fun e w' => e = .returned (.bool true) ∧ Below w.heap.size w w' := by
  have CB := Lib.hid (fun w => begun_any w)
  have LM := Lib.hid (fun w => confi.may_any j.a w h.1)
  have RM := Lib.hid (fun w => ref10.may_any j.a w h.1)
  have LJ := Lib.hid (fun w => confi.mayJ_any j w h)
  have RJ := Lib.hid (fun w => ref10.mayJ_any j w h)
  have L1 := Lib.hid (fun w => confi.membersJ_any j w h)
  have L2 := Lib.hid (fun w => confi.votingJ_any j w h)
  have L3 := Lib.hid (fun w => confi.dataJ_any j w h)
  have L4 := Lib.hid (fun w => confi.leads_any j n w h h0 h1)
  have L5 := Lib.hid (fun w => confi.elects_any j got w h hg)
  have L6 := Lib.hid (fun w => confi.commits_any j got w h hg)
  have R1 := Lib.hid (fun hm w => ref10.members_any j w h hm)
  have R2 := Lib.hid (fun hm w => ref10.voting_any j w h hm)
  have R3 := Lib.hid (fun hm w => ref10.data_any j w h hm)
  have R4 := Lib.hid (fun w => ref10.leads_any j n w h h0 h1)
  have R5 := Lib.hid (fun w => ref10.elects_any j got w h hg)
  have R6 := Lib.hid (fun hm w => ref10.commits_any j got w h hg hm)
  generalize mayC j.a = ma at *
  generalize mayJ j = mj at *
  generalize unF j memF = u1 at *
  generalize unF j votF = u2 at *
  generalize unF j datF = u3 at *
  generalize ledF j n = b4 at *
  generalize elJ j got = b5 at *
  generalize coJ j got = b6 at *
  unfold jtV cfV at *
  obtain ⟨⟨av, aw, al, ae, ak⟩, ⟨bv, bw, bl, be, bk⟩, t⟩ := j
  dsimp only at *
  clear h
  have k0 : Blk 27 (w.alloc (.cells #[.int .u16 (av : Int), .int .u16 (aw : Int), .int .u16 (al : Int), .int .i64 ae, .int .i64 ak, .int .u16 (bv : Int), .int .u16 (bw : Int), .int .u16 (bl : Int), .int .i64 be, .int .i64 bk, .bool t] 27)) w.heap.size [.int .u16 (av : Int), .int .u16 (aw : Int), .int .u16 (al : Int), .int .i64 ae, .int .i64 ak, .int .u16 (bv : Int), .int .u16 (bw : Int), .int .u16 (bl : Int), .int .i64 be, .int .i64 bk, .bool t] := heap_alloc_new w _
  have HB := Lib.hid ((Below.refl w.heap.size w).alloc (Nat.le_refl _) (.cells #[.int .u16 (av : Int), .int .u16 (aw : Int), .int .u16 (al : Int), .int .i64 ae, .int .i64 ak, .int .u16 (bv : Int), .int .u16 (bw : Int), .int .u16 (bl : Int), .int .i64 be, .int .i64 bk, .bool t] 27))
  have HS : Hid (∀ wq, Below (w.alloc (.cells #[.int .u16 (av : Int), .int .u16 (aw : Int), .int .u16 (al : Int), .int .i64 ae, .int .i64 ak, .int .u16 (bv : Int), .int .u16 (bw : Int), .int .u16 (bl : Int), .int .i64 be, .int .i64 bk, .bool t] 27)).heap.size (w.alloc (.cells #[.int .u16 (av : Int), .int .u16 (aw : Int), .int .u16 (al : Int), .int .i64 ae, .int .i64 ak, .int .u16 (bv : Int), .int .u16 (bw : Int), .int .u16 (bl : Int), .int .i64 be, .int .i64 bk, .bool t] 27)) wq → (wq.cell? ⟨w.heap.size, 0, none⟩ = some (.int .u16 (av : Int)) ∧ wq.cell? ⟨w.heap.size, 1, none⟩ = some (.int .u16 (aw : Int)) ∧ wq.cell? ⟨w.heap.size, 2, none⟩ = some (.int .u16 (al : Int)) ∧ wq.cell? ⟨w.heap.size, 3, none⟩ = some (.int .i64 ae) ∧ wq.cell? ⟨w.heap.size, 4, none⟩ = some (.int .i64 ak) ∧ wq.cell? ⟨w.heap.size, 5, none⟩ = some (.int .u16 (bv : Int)) ∧ wq.cell? ⟨w.heap.size, 6, none⟩ = some (.int .u16 (bw : Int)) ∧ wq.cell? ⟨w.heap.size, 7, none⟩ = some (.int .u16 (bl : Int)) ∧ wq.cell? ⟨w.heap.size, 8, none⟩ = some (.int .i64 be) ∧ wq.cell? ⟨w.heap.size, 9, none⟩ = some (.int .i64 bk) ∧ wq.cell? ⟨w.heap.size, 10, none⟩ = some (.bool t))) := fun wq hq => blk11 (k0.below hq k0.lt)
  have q0 := Below.refl (w.alloc (.cells #[.int .u16 (av : Int), .int .u16 (aw : Int), .int .u16 (al : Int), .int .i64 ae, .int .i64 ak, .int .u16 (bv : Int), .int .u16 (bw : Int), .int .u16 (bl : Int), .int .i64 be, .int .i64 bk, .bool t] 27)).heap.size (w.alloc (.cells #[.int .u16 (av : Int), .int .u16 (aw : Int), .int .u16 (al : Int), .int .i64 ae, .int .i64 ak, .int .u16 (bv : Int), .int .u16 (bw : Int), .int .u16 (bl : Int), .int .i64 be, .int .i64 bk, .bool t] 27))
  clear k0
  go_enter Try.func3, Try.ntmps3
  go_upto_region 1 with (fail)
  generalize (w.alloc (.cells #[.int .u16 (av : Int), .int .u16 (aw : Int), .int .u16 (al : Int), .int .i64 ae, .int .i64 ak, .int .u16 (bv : Int), .int .u16 (bw : Int), .int .u16 (bl : Int), .int .i64 be, .int .i64 bk, .bool t] 27)) = w1 at *
  have r0 := HS.out _ q0
  go_wp2_with fail
  refine (CB.out _).mono ?_
  rintro e y1 ⟨rfl, hY1⟩
  have q1 := q0.trans (hY1.mono q0.size)
  have r1 := HS.out _ q1
  go_upto_region 3 with (fail)
  have q2 := q1.drew
  refine wp_region_held_drew (S := fun wq => (wq.cell? ⟨w.heap.size, 0, none⟩ = some (.int .u16 (av : Int)) ∧ wq.cell? ⟨w.heap.size, 1, none⟩ = some (.int .u16 (aw : Int)) ∧ wq.cell? ⟨w.heap.size, 2, none⟩ = some (.int .u16 (al : Int)) ∧ wq.cell? ⟨w.heap.size, 3, none⟩ = some (.int .i64 ae) ∧ wq.cell? ⟨w.heap.size, 4, none⟩ = some (.int .i64 ak) ∧ wq.cell? ⟨w.heap.size, 5, none⟩ = some (.int .u16 (bv : Int)) ∧ wq.cell? ⟨w.heap.size, 6, none⟩ = some (.int .u16 (bw : Int)) ∧ wq.cell? ⟨w.heap.size, 7, none⟩ = some (.int .u16 (bl : Int)) ∧ wq.cell? ⟨w.heap.size, 8, none⟩ = some (.int .i64 be) ∧ wq.cell? ⟨w.heap.size, 9, none⟩ = some (.int .i64 bk) ∧ wq.cell? ⟨w.heap.size, 10, none⟩ = some (.bool t))) (by kernel_rfl) ?s_all3 (fun hHeld => ?_)
  case s_all3 => exact HS.out _ q2
  refine tk 0 { dst := some 9, op := .fieldAddr 27 (.tmp 3) 0, type := 0, pos := "law.go:23", after := #[], guard := none } _ ?_
  try simp only [Act.put, List.setIfInBounds_toArray, List.set_cons_zero, List.set_cons_succ]
  refine tk 1 { dst := some 10, op := .load 25 (.tmp 9), type := 25, pos := "law.go:23", after := #[{ on := 0, ground := .data }], guard := none } _ ?_
  try simp only [Act.put, List.setIfInBounds_toArray, List.set_cons_zero, List.set_cons_succ]
  refine tk 3 { dst := some 12, op := .fieldAddr 27 (.tmp 3) 0, type := 0, pos := "law.go:23", after := #[], guard := none } _ ?_
  try simp only [Act.put, List.setIfInBounds_toArray, List.set_cons_zero, List.set_cons_succ]
  refine tk 4 { dst := some 13, op := .load 25 (.tmp 12), type := 25, pos := "law.go:23", after := #[{ on := 3, ground := .data }], guard := none } _ ?_
  try simp only [Act.put, List.setIfInBounds_toArray, List.set_cons_zero, List.set_cons_succ]
  refine wpAnyH_ready (rs := [2]) (by kernel_rfl) (by simp) ?_
  refine AllReadyH.cons (o := { dst := some 11, op := .call { callee := .value (.func 11), args := #[.tmp 10], argTypes := #[25] }, type := 4, pos := "law.go:23", after := #[{ on := 1, ground := .data }], guard := none }) rfl (fun KQ hKQ => ?_) AllReadyH.nil
  go_simp
  refine (LM.out _).mono ?_
  rintro e y3 ⟨rfl, hY3⟩
  have q3 := q2.trans (hY3.mono q2.size)
  have r3 := HS.out _ q3
  go_wp2_with fail
  refine hKQ.out _ _ ?s_2 (fun hHeld2 => ?_)
  case s_2 => exact r3
  clear hKQ KQ
  try simp only [Act.put, List.setIfInBounds_toArray, List.set_cons_zero, List.set_cons_succ]
  refine wpAnyH_ready (rs := [5]) (by kernel_rfl) (by simp) ?_
  refine AllReadyH.cons (o := { dst := some 14, op := .call { callee := .value (.func 12), args := #[.tmp 13], argTypes := #[25] }, type := 4, pos := "law.go:23", after := #[{ on := 4, ground := .data }, { on := 2, ground := .chain }], guard := none }) rfl (fun KQ hKQ => ?_) AllReadyH.nil
  go_simp
  refine (RM.out _).mono ?_
  rintro e y4 ⟨rfl, hY4⟩
  have q4 := q3.trans (hY4.mono q3.size)
  have r4 := HS.out _ q4
  go_wp2_with fail
  refine hKQ.out _ _ ?s_5 (fun hHeld5 => ?_)
  case s_5 => exact r4
  clear hKQ KQ
  try simp only [Act.put, List.setIfInBounds_toArray, List.set_cons_zero, List.set_cons_succ]
  refine tk 6 { dst := some 15, op := .binOp .neq 4 (.tmp 11) (.tmp 14) 4, type := 4, pos := "law.go:23", after := #[{ on := 2, ground := .data }, { on := 5, ground := .data }], guard := none } _ ?_
  try simp only [Act.put, List.setIfInBounds_toArray, List.set_cons_zero, List.set_cons_succ]
  refine tk 7 { dst := some 16, op := .move (.tmp 15), type := 4, pos := "law.go:23", after := #[{ on := 6, ground := .data }, { on := 5, ground := .chain }], guard := none } _ ?_
  try simp only [Act.put, List.setIfInBounds_toArray, List.set_cons_zero, List.set_cons_succ]
  refine tk 8 { dst := some 17, op := .load 27 (.tmp 3), type := 27, pos := "law.go:23", after := #[{ on := 7, ground := .guard }], guard := some (7, false) } _ ?_
  try simp only [Act.put, List.setIfInBounds_toArray, List.set_cons_zero, List.set_cons_succ]
  refine tk 10 { dst := some 19, op := .load 27 (.tmp 3), type := 27, pos := "law.go:23", after := #[{ on := 7, ground := .guard }], guard := some (7, false) } _ ?_
  try simp only [Act.put, List.setIfInBounds_toArray, List.set_cons_zero, List.set_cons_succ]
  refine wpAnyH_ready (rs := [9]) (by kernel_rfl) (by simp) ?_
  refine AllReadyH.cons (o := { dst := some 18, op := .call { callee := .value (.func 13), args := #[.tmp 17], argTypes := #[27] }, type := 4, pos := "law.go:23", after := #[{ on := 8, ground := .data }, { on := 7, ground := .chain }, { on := 7, ground := .guard }], guard := some (7, false) }) rfl (fun KQ hKQ => ?_) AllReadyH.nil
  go_simp
  refine (LJ.out _).mono ?_
  rintro e y5 ⟨rfl, hY5⟩
  have q5 := q4.trans (hY5.mono q4.size)
  have r5 := HS.out _ q5
  go_wp2_with fail
  refine hKQ.out _ _ ?s_9 (fun hHeld9 => ?_)
  case s_9 => exact r5
  clear hKQ KQ
  try simp only [Act.put, List.setIfInBounds_toArray, List.set_cons_zero, List.set_cons_succ]
  refine wpAnyH_ready (rs := [11]) (by kernel_rfl) (by simp) ?_
  refine AllReadyH.cons (o := { dst := some 20, op := .call { callee := .value (.func 14), args := #[.tmp 19], argTypes := #[27] }, type := 4, pos := "law.go:23", after := #[{ on := 10, ground := .data }, { on := 9, ground := .chain }, { on := 7, ground := .guard }], guard := some (7, false) }) rfl (fun KQ hKQ => ?_) AllReadyH.nil
  go_simp
  refine (RJ.out _).mono ?_
  rintro e y6 ⟨rfl, hY6⟩
  have q6 := q5.trans (hY6.mono q5.size)
  have r6 := HS.out _ q6
  go_wp2_with fail
  refine hKQ.out _ _ ?s_11 (fun hHeld11 => ?_)
  case s_11 => exact r6
  clear hKQ KQ
  try simp only [Act.put, List.setIfInBounds_toArray, List.set_cons_zero, List.set_cons_succ]
  refine tk 12 { dst := some 21, op := .binOp .neq 4 (.tmp 18) (.tmp 20) 4, type := 4, pos := "law.go:23", after := #[{ on := 9, ground := .data }, { on := 11, ground := .data }, { on := 7, ground := .guard }], guard := some (7, false) } _ ?_
  try simp only [Act.put, List.setIfInBounds_toArray, List.set_cons_zero, List.set_cons_succ]
  refine tk 13 { dst := some 22, op := .pick (.tmp 16) (.const (.bool true)) (.tmp 21), type := 4, pos := "law.go:23", after := #[{ on := 7, ground := .data }, { on := 12, ground := .data }], guard := none } _ ?_
  try simp only [Act.put, List.setIfInBounds_toArray, List.set_cons_zero, List.set_cons_succ]
  refine wpAnyH_done (by kernel_rfl) ?_ _
  cases mj
  · go_wp2_with fail
    refine (RJ.out _).mono ?_
    rintro e y7 ⟨rfl, hY7⟩
    have q7 := q6.trans (hY7.mono q6.size)
    have r7 := HS.out _ q7
    go_wp2_with fail
    go_ret
    exact ⟨rfl, HB.out.trans (q7.mono HB.out.size)⟩
  · have S1 := Lib.hid (R1.out rfl)
    have S2 := Lib.hid (R2.out rfl)
    have S3 := Lib.hid (R3.out rfl)
    have S6 := Lib.hid (R6.out rfl)
    clear R1 R2 R3 R6 LM RM LJ CB
    go_wp2_with fail
    refine (RJ.out _).mono ?_
    rintro e y7 ⟨rfl, hY7⟩
    have q7 := q6.trans (hY7.mono q6.size)
    have r7 := HS.out _ q7
    go_upto_region 7 with (fail)
    have q8 := q7.drew
    refine wp_region_held_drew (S := fun wq => (wq.cell? ⟨w.heap.size, 0, none⟩ = some (.int .u16 (av : Int)) ∧ wq.cell? ⟨w.heap.size, 1, none⟩ = some (.int .u16 (aw : Int)) ∧ wq.cell? ⟨w.heap.size, 2, none⟩ = some (.int .u16 (al : Int)) ∧ wq.cell? ⟨w.heap.size, 3, none⟩ = some (.int .i64 ae) ∧ wq.cell? ⟨w.heap.size, 4, none⟩ = some (.int .i64 ak) ∧ wq.cell? ⟨w.heap.size, 5, none⟩ = some (.int .u16 (bv : Int)) ∧ wq.cell? ⟨w.heap.size, 6, none⟩ = some (.int .u16 (bw : Int)) ∧ wq.cell? ⟨w.heap.size, 7, none⟩ = some (.int .u16 (bl : Int)) ∧ wq.cell? ⟨w.heap.size, 8, none⟩ = some (.int .i64 be) ∧ wq.cell? ⟨w.heap.size, 9, none⟩ = some (.int .i64 bk) ∧ wq.cell? ⟨w.heap.size, 10, none⟩ = some (.bool t))) (by kernel_rfl) ?s_all7 (fun hHeld => ?_)
    case s_all7 => exact HS.out _ q8
    refine tk 0 { dst := some 26, op := .load 27 (.tmp 3), type := 27, pos := "law.go:29", after := #[], guard := none } _ ?_
    try simp only [Act.put, List.setIfInBounds_toArray, List.set_cons_zero, List.set_cons_succ]
    refine tk 2 { dst := some 28, op := .load 27 (.tmp 3), type := 27, pos := "law.go:29", after := #[], guard := none } _ ?_
    try simp only [Act.put, List.setIfInBounds_toArray, List.set_cons_zero, List.set_cons_succ]
    refine wpAnyH_ready (rs := [1]) (by kernel_rfl) (by simp) ?_
    refine AllReadyH.cons (o := { dst := some 27, op := .call { callee := .value (.func 15), args := #[.tmp 26], argTypes := #[27] }, type := 23, pos := "law.go:29", after := #[{ on := 0, ground := .data }], guard := none }) rfl (fun KQ hKQ => ?_) AllReadyH.nil
    go_simp
    refine (L1.out _).mono ?_
    rintro e y9 ⟨rfl, hY9⟩
    have q9 := q8.trans (hY9.mono q8.size)
    have r9 := HS.out _ q9
    go_wp2_with fail
    refine hKQ.out _ _ ?s_1 (fun hHeld1 => ?_)
    case s_1 => exact r9
    clear hKQ KQ
    try simp only [Act.put, List.setIfInBounds_toArray, List.set_cons_zero, List.set_cons_succ]
    refine wpAnyH_ready (rs := [3]) (by kernel_rfl) (by simp) ?_
    refine AllReadyH.cons (o := { dst := some 29, op := .call { callee := .value (.func 16), args := #[.tmp 28], argTypes := #[27] }, type := 23, pos := "law.go:29", after := #[{ on := 2, ground := .data }, { on := 1, ground := .chain }], guard := none }) rfl (fun KQ hKQ => ?_) AllReadyH.nil
    go_simp
    refine (S1.out _).mono ?_
    rintro e y10 ⟨rfl, hY10⟩
    have q10 := q9.trans (hY10.mono q9.size)
    have r10 := HS.out _ q10
    go_wp2_with fail
    refine hKQ.out _ _ ?s_3 (fun hHeld3 => ?_)
    case s_3 => exact r10
    clear hKQ KQ
    try simp only [Act.put, List.setIfInBounds_toArray, List.set_cons_zero, List.set_cons_succ]
    refine tk 4 { dst := some 30, op := .binOp .eql 23 (.tmp 27) (.tmp 29) 23, type := 4, pos := "law.go:29", after := #[{ on := 1, ground := .data }, { on := 3, ground := .data }], guard := none } _ ?_
    try simp only [Act.put, List.setIfInBounds_toArray, List.set_cons_zero, List.set_cons_succ]
    refine tk 5 { dst := some 31, op := .move (.tmp 30), type := 4, pos := "law.go:29", after := #[{ on := 4, ground := .data }, { on := 3, ground := .chain }], guard := none } _ ?_
    try simp only [Act.put, List.setIfInBounds_toArray, List.set_cons_zero, List.set_cons_succ]
    refine tk 6 { dst := some 32, op := .load 27 (.tmp 3), type := 27, pos := "law.go:29", after := #[{ on := 5, ground := .guard }], guard := some (5, true) } _ ?_
    try simp only [Act.put, List.setIfInBounds_toArray, List.set_cons_zero, List.set_cons_succ]
    refine tk 8 { dst := some 34, op := .load 27 (.tmp 3), type := 27, pos := "law.go:29", after := #[{ on := 5, ground := .guard }], guard := some (5, true) } _ ?_
    try simp only [Act.put, List.setIfInBounds_toArray, List.set_cons_zero, List.set_cons_succ]
    refine wpAnyH_ready (rs := [7]) (by kernel_rfl) (by simp) ?_
    refine AllReadyH.cons (o := { dst := some 33, op := .call { callee := .value (.func 17), args := #[.tmp 32], argTypes := #[27] }, type := 23, pos := "law.go:29", after := #[{ on := 6, ground := .data }, { on := 5, ground := .chain }, { on := 5, ground := .guard }], guard := some (5, true) }) rfl (fun KQ hKQ => ?_) AllReadyH.nil
    go_simp
    refine (L2.out _).mono ?_
    rintro e y11 ⟨rfl, hY11⟩
    have q11 := q10.trans (hY11.mono q10.size)
    have r11 := HS.out _ q11
    go_wp2_with fail
    refine hKQ.out _ _ ?s_7 (fun hHeld7 => ?_)
    case s_7 => exact r11
    clear hKQ KQ
    try simp only [Act.put, List.setIfInBounds_toArray, List.set_cons_zero, List.set_cons_succ]
    refine wpAnyH_ready (rs := [9]) (by kernel_rfl) (by simp) ?_
    refine AllReadyH.cons (o := { dst := some 35, op := .call { callee := .value (.func 18), args := #[.tmp 34], argTypes := #[27] }, type := 23, pos := "law.go:29", after := #[{ on := 8, ground := .data }, { on := 7, ground := .chain }, { on := 5, ground := .guard }], guard := some (5, true) }) rfl (fun KQ hKQ => ?_) AllReadyH.nil
    go_simp
    refine (S2.out _).mono ?_
    rintro e y12 ⟨rfl, hY12⟩
    have q12 := q11.trans (hY12.mono q11.size)
    have r12 := HS.out _ q12
    go_wp2_with fail
    refine hKQ.out _ _ ?s_9 (fun hHeld9 => ?_)
    case s_9 => exact r12
    clear hKQ KQ
    try simp only [Act.put, List.setIfInBounds_toArray, List.set_cons_zero, List.set_cons_succ]
    refine tk 10 { dst := some 36, op := .binOp .eql 23 (.tmp 33) (.tmp 35) 23, type := 4, pos := "law.go:29", after := #[{ on := 7, ground := .data }, { on := 9, ground := .data }, { on := 5, ground := .guard }], guard := some (5, true) } _ ?_
    try simp only [Act.put, List.setIfInBounds_toArray, List.set_cons_zero, List.set_cons_succ]
    refine tk 11 { dst := some 37, op := .pick (.tmp 31) (.tmp 36) (.const (.bool false)), type := 4, pos := "law.go:29", after := #[{ on := 5, ground := .data }, { on := 10, ground := .data }], guard := none } _ ?_
    try simp only [Act.put, List.setIfInBounds_toArray, List.set_cons_zero, List.set_cons_succ]
    refine tk 12 { dst := some 38, op := .move (.tmp 37), type := 4, pos := "law.go:29", after := #[{ on := 11, ground := .data }, { on := 9, ground := .chain }], guard := none } _ ?_
    try simp only [Act.put, List.setIfInBounds_toArray, List.set_cons_zero, List.set_cons_succ]
    refine tk 13 { dst := some 39, op := .load 27 (.tmp 3), type := 27, pos := "law.go:29", after := #[{ on := 12, ground := .guard }], guard := some (12, true) } _ ?_
    try simp only [Act.put, List.setIfInBounds_toArray, List.set_cons_zero, List.set_cons_succ]
    refine tk 15 { dst := some 41, op := .load 27 (.tmp 3), type := 27, pos := "law.go:29", after := #[{ on := 12, ground := .guard }], guard := some (12, true) } _ ?_
    try simp only [Act.put, List.setIfInBounds_toArray, List.set_cons_zero, List.set_cons_succ]
    refine wpAnyH_ready (rs := [14]) (by kernel_rfl) (by simp) ?_
    refine AllReadyH.cons (o := { dst := some 40, op := .call { callee := .value (.func 19), args := #[.tmp 39], argTypes := #[27] }, type := 23, pos := "law.go:29", after := #[{ on := 13, ground := .data }, { on := 12, ground := .chain }, { on := 12, ground := .guard }], guard := some (12, true) }) rfl (fun KQ hKQ => ?_) AllReadyH.nil
    go_simp
    refine (L3.out _).mono ?_
    rintro e y13 ⟨rfl, hY13⟩
    have q13 := q12.trans (hY13.mono q12.size)
    have r13 := HS.out _ q13
    go_wp2_with fail
    refine hKQ.out _ _ ?s_14 (fun hHeld14 => ?_)
    case s_14 => exact r13
    clear hKQ KQ
    try simp only [Act.put, List.setIfInBounds_toArray, List.set_cons_zero, List.set_cons_succ]
    refine wpAnyH_ready (rs := [16]) (by kernel_rfl) (by simp) ?_
    refine AllReadyH.cons (o := { dst := some 42, op := .call { callee := .value (.func 20), args := #[.tmp 41], argTypes := #[27] }, type := 23, pos := "law.go:29", after := #[{ on := 15, ground := .data }, { on := 14, ground := .chain }, { on := 12, ground := .guard }], guard := some (12, true) }) rfl (fun KQ hKQ => ?_) AllReadyH.nil
    go_simp
    refine (S3.out _).mono ?_
    rintro e y14 ⟨rfl, hY14⟩
    have q14 := q13.trans (hY14.mono q13.size)
    have r14 := HS.out _ q14
    go_wp2_with fail
    refine hKQ.out _ _ ?s_16 (fun hHeld16 => ?_)
    case s_16 => exact r14
    clear hKQ KQ
    try simp only [Act.put, List.setIfInBounds_toArray, List.set_cons_zero, List.set_cons_succ]
    refine tk 17 { dst := some 43, op := .binOp .eql 23 (.tmp 40) (.tmp 42) 23, type := 4, pos := "law.go:29", after := #[{ on := 14, ground := .data }, { on := 16, ground := .data }, { on := 12, ground := .guard }], guard := some (12, true) } _ ?_
    try simp only [Act.put, List.setIfInBounds_toArray, List.set_cons_zero, List.set_cons_succ]
    refine tk 18 { dst := some 44, op := .pick (.tmp 38) (.tmp 43) (.const (.bool false)), type := 4, pos := "law.go:29", after := #[{ on := 12, ground := .data }, { on := 17, ground := .data }], guard := none } _ ?_
    try simp only [Act.put, List.setIfInBounds_toArray, List.set_cons_zero, List.set_cons_succ]
    refine tk 19 { dst := some 45, op := .move (.tmp 44), type := 4, pos := "law.go:29", after := #[{ on := 18, ground := .data }, { on := 16, ground := .chain }], guard := none } _ ?_
    try simp only [Act.put, List.setIfInBounds_toArray, List.set_cons_zero, List.set_cons_succ]
    refine tk 20 { dst := some 46, op := .load 27 (.tmp 3), type := 27, pos := "law.go:29", after := #[{ on := 19, ground := .guard }], guard := some (19, true) } _ ?_
    try simp only [Act.put, List.setIfInBounds_toArray, List.set_cons_zero, List.set_cons_succ]
    refine tk 21 { dst := some 47, op := .move (.tmp 2), type := 3, pos := "law.go:29", after := #[{ on := 19, ground := .guard }], guard := some (19, true) } _ ?_
    try simp only [Act.put, List.setIfInBounds_toArray, List.set_cons_zero, List.set_cons_succ]
    refine tk 23 { dst := some 49, op := .load 27 (.tmp 3), type := 27, pos := "law.go:29", after := #[{ on := 19, ground := .guard }], guard := some (19, true) } _ ?_
    try simp only [Act.put, List.setIfInBounds_toArray, List.set_cons_zero, List.set_cons_succ]
    refine tk 24 { dst := some 50, op := .move (.tmp 2), type := 3, pos := "law.go:29", after := #[{ on := 19, ground := .guard }], guard := some (19, true) } _ ?_
    try simp only [Act.put, List.setIfInBounds_toArray, List.set_cons_zero, List.set_cons_succ]
    refine wpAnyH_ready (rs := [22]) (by kernel_rfl) (by simp) ?_
    refine AllReadyH.cons (o := { dst := some 48, op := .call { callee := .value (.func 21), args := #[.tmp 46, .tmp 47], argTypes := #[27, 3] }, type := 4, pos := "law.go:29", after := #[{ on := 20, ground := .data }, { on := 21, ground := .data }, { on := 19, ground := .chain }, { on := 19, ground := .guard }], guard := some (19, true) }) rfl (fun KQ hKQ => ?_) AllReadyH.nil
    go_simp
    refine (L4.out _).mono ?_
    rintro e y15 ⟨rfl, hY15⟩
    have q15 := q14.trans (hY15.mono q14.size)
    have r15 := HS.out _ q15
    go_wp2_with fail
    refine hKQ.out _ _ ?s_22 (fun hHeld22 => ?_)
    case s_22 => exact r15
    clear hKQ KQ
    try simp only [Act.put, List.setIfInBounds_toArray, List.set_cons_zero, List.set_cons_succ]
    refine wpAnyH_ready (rs := [25]) (by kernel_rfl) (by simp) ?_
    refine AllReadyH.cons (o := { dst := some 51, op := .call { callee := .value (.func 22), args := #[.tmp 49, .tmp 50], argTypes := #[27, 3] }, type := 4, pos := "law.go:29", after := #[{ on := 23, ground := .data }, { on := 24, ground := .data }, { on := 22, ground := .chain }, { on := 19, ground := .guard }], guard := some (19, true) }) rfl (fun KQ hKQ => ?_) AllReadyH.nil
    go_simp
    refine (R4.out _).mono ?_
    rintro e y16 ⟨rfl, hY16⟩
    have q16 := q15.trans (hY16.mono q15.size)
    have r16 := HS.out _ q16
    go_wp2_with fail
    refine hKQ.out _ _ ?s_25 (fun hHeld25 => ?_)
    case s_25 => exact r16
    clear hKQ KQ
    try simp only [Act.put, List.setIfInBounds_toArray, List.set_cons_zero, List.set_cons_succ]
    refine tk 26 { dst := some 52, op := .binOp .eql 4 (.tmp 48) (.tmp 51) 4, type := 4, pos := "law.go:29", after := #[{ on := 22, ground := .data }, { on := 25, ground := .data }, { on := 19, ground := .guard }], guard := some (19, true) } _ ?_
    try simp only [Act.put, List.setIfInBounds_toArray, List.set_cons_zero, List.set_cons_succ]
    refine tk 27 { dst := some 53, op := .pick (.tmp 45) (.tmp 52) (.const (.bool false)), type := 4, pos := "law.go:29", after := #[{ on := 19, ground := .data }, { on := 26, ground := .data }], guard := none } _ ?_
    try simp only [Act.put, List.setIfInBounds_toArray, List.set_cons_zero, List.set_cons_succ]
    refine tk 28 { dst := some 54, op := .move (.tmp 53), type := 4, pos := "law.go:29", after := #[{ on := 27, ground := .data }, { on := 25, ground := .chain }], guard := none } _ ?_
    try simp only [Act.put, List.setIfInBounds_toArray, List.set_cons_zero, List.set_cons_succ]
    refine tk 29 { dst := some 55, op := .load 27 (.tmp 3), type := 27, pos := "law.go:29", after := #[{ on := 28, ground := .guard }], guard := some (28, true) } _ ?_
    try simp only [Act.put, List.setIfInBounds_toArray, List.set_cons_zero, List.set_cons_succ]
    refine tk 30 { dst := some 56, op := .move (.tmp 1), type := 23, pos := "law.go:29", after := #[{ on := 28, ground := .guard }], guard := some (28, true) } _ ?_
    try simp only [Act.put, List.setIfInBounds_toArray, List.set_cons_zero, List.set_cons_succ]
    refine tk 32 { dst := some 58, op := .load 27 (.tmp 3), type := 27, pos := "law.go:29", after := #[{ on := 28, ground := .guard }], guard := some (28, true) } _ ?_
    try simp only [Act.put, List.setIfInBounds_toArray, List.set_cons_zero, List.set_cons_succ]
    refine tk 33 { dst := some 59, op := .move (.tmp 1), type := 23, pos := "law.go:29", after := #[{ on := 28, ground := .guard }], guard := some (28, true) } _ ?_
    try simp only [Act.put, List.setIfInBounds_toArray, List.set_cons_zero, List.set_cons_succ]
    refine wpAnyH_ready (rs := [31]) (by kernel_rfl) (by simp) ?_
    refine AllReadyH.cons (o := { dst := some 57, op := .call { callee := .value (.func 23), args := #[.tmp 55, .tmp 56], argTypes := #[27, 23] }, type := 4, pos := "law.go:29", after := #[{ on := 29, ground := .data }, { on := 30, ground := .data }, { on := 28, ground := .chain }, { on := 28, ground := .guard }], guard := some (28, true) }) rfl (fun KQ hKQ => ?_) AllReadyH.nil
    go_simp
    refine (L5.out _).mono ?_
    rintro e y17 ⟨rfl, hY17⟩
    have q17 := q16.trans (hY17.mono q16.size)
    have r17 := HS.out _ q17
    go_wp2_with fail
    refine hKQ.out _ _ ?s_31 (fun hHeld31 => ?_)
    case s_31 => exact r17
    clear hKQ KQ
    try simp only [Act.put, List.setIfInBounds_toArray, List.set_cons_zero, List.set_cons_succ]
    refine wpAnyH_ready (rs := [34]) (by kernel_rfl) (by simp) ?_
    refine AllReadyH.cons (o := { dst := some 60, op := .call { callee := .value (.func 24), args := #[.tmp 58, .tmp 59], argTypes := #[27, 23] }, type := 4, pos := "law.go:29", after := #[{ on := 32, ground := .data }, { on := 33, ground := .data }, { on := 31, ground := .chain }, { on := 28, ground := .guard }], guard := some (28, true) }) rfl (fun KQ hKQ => ?_) AllReadyH.nil
    go_simp
    refine (R5.out _).mono ?_
    rintro e y18 ⟨rfl, hY18⟩
    have q18 := q17.trans (hY18.mono q17.size)
    have r18 := HS.out _ q18
    go_wp2_with fail
    refine hKQ.out _ _ ?s_34 (fun hHeld34 => ?_)
    case s_34 => exact r18
    clear hKQ KQ
    try simp only [Act.put, List.setIfInBounds_toArray, List.set_cons_zero, List.set_cons_succ]
    refine tk 35 { dst := some 61, op := .binOp .eql 4 (.tmp 57) (.tmp 60) 4, type := 4, pos := "law.go:29", after := #[{ on := 31, ground := .data }, { on := 34, ground := .data }, { on := 28, ground := .guard }], guard := some (28, true) } _ ?_
    try simp only [Act.put, List.setIfInBounds_toArray, List.set_cons_zero, List.set_cons_succ]
    refine tk 36 { dst := some 62, op := .pick (.tmp 54) (.tmp 61) (.const (.bool false)), type := 4, pos := "law.go:29", after := #[{ on := 28, ground := .data }, { on := 35, ground := .data }], guard := none } _ ?_
    try simp only [Act.put, List.setIfInBounds_toArray, List.set_cons_zero, List.set_cons_succ]
    refine tk 37 { dst := some 63, op := .move (.tmp 62), type := 4, pos := "law.go:29", after := #[{ on := 36, ground := .data }, { on := 34, ground := .chain }], guard := none } _ ?_
    try simp only [Act.put, List.setIfInBounds_toArray, List.set_cons_zero, List.set_cons_succ]
    refine tk 38 { dst := some 64, op := .load 27 (.tmp 3), type := 27, pos := "law.go:29", after := #[{ on := 37, ground := .guard }], guard := some (37, true) } _ ?_
    try simp only [Act.put, List.setIfInBounds_toArray, List.set_cons_zero, List.set_cons_succ]
    refine tk 39 { dst := some 65, op := .move (.tmp 1), type := 23, pos := "law.go:29", after := #[{ on := 37, ground := .guard }], guard := some (37, true) } _ ?_
    try simp only [Act.put, List.setIfInBounds_toArray, List.set_cons_zero, List.set_cons_succ]
    refine tk 41 { dst := some 67, op := .load 27 (.tmp 3), type := 27, pos := "law.go:29", after := #[{ on := 37, ground := .guard }], guard := some (37, true) } _ ?_
    try simp only [Act.put, List.setIfInBounds_toArray, List.set_cons_zero, List.set_cons_succ]
    refine tk 42 { dst := some 68, op := .move (.tmp 1), type := 23, pos := "law.go:29", after := #[{ on := 37, ground := .guard }], guard := some (37, true) } _ ?_
    try simp only [Act.put, List.setIfInBounds_toArray, List.set_cons_zero, List.set_cons_succ]
    refine wpAnyH_ready (rs := [40]) (by kernel_rfl) (by simp) ?_
    refine AllReadyH.cons (o := { dst := some 66, op := .call { callee := .value (.func 25), args := #[.tmp 64, .tmp 65], argTypes := #[27, 23] }, type := 4, pos := "law.go:29", after := #[{ on := 38, ground := .data }, { on := 39, ground := .data }, { on := 37, ground := .chain }, { on := 37, ground := .guard }], guard := some (37, true) }) rfl (fun KQ hKQ => ?_) AllReadyH.nil
    go_simp
    refine (L6.out _).mono ?_
    rintro e y19 ⟨rfl, hY19⟩
    have q19 := q18.trans (hY19.mono q18.size)
    have r19 := HS.out _ q19
    go_wp2_with fail
    refine hKQ.out _ _ ?s_40 (fun hHeld40 => ?_)
    case s_40 => exact r19
    clear hKQ KQ
    try simp only [Act.put, List.setIfInBounds_toArray, List.set_cons_zero, List.set_cons_succ]
    refine wpAnyH_ready (rs := [43]) (by kernel_rfl) (by simp) ?_
    refine AllReadyH.cons (o := { dst := some 69, op := .call { callee := .value (.func 26), args := #[.tmp 67, .tmp 68], argTypes := #[27, 23] }, type := 4, pos := "law.go:29", after := #[{ on := 41, ground := .data }, { on := 42, ground := .data }, { on := 40, ground := .chain }, { on := 37, ground := .guard }], guard := some (37, true) }) rfl (fun KQ hKQ => ?_) AllReadyH.nil
    go_simp
    refine (S6.out _).mono ?_
    rintro e y20 ⟨rfl, hY20⟩
    have q20 := q19.trans (hY20.mono q19.size)
    have r20 := HS.out _ q20
    go_wp2_with fail
    refine hKQ.out _ _ ?s_43 (fun hHeld43 => ?_)
    case s_43 => exact r20
    clear hKQ KQ
    try simp only [Act.put, List.setIfInBounds_toArray, List.set_cons_zero, List.set_cons_succ]
    refine tk 44 { dst := some 70, op := .binOp .eql 4 (.tmp 66) (.tmp 69) 4, type := 4, pos := "law.go:29", after := #[{ on := 40, ground := .data }, { on := 43, ground := .data }, { on := 37, ground := .guard }], guard := some (37, true) } _ ?_
    try simp only [Act.put, List.setIfInBounds_toArray, List.set_cons_zero, List.set_cons_succ]
    refine tk 45 { dst := some 71, op := .pick (.tmp 63) (.tmp 70) (.const (.bool false)), type := 4, pos := "law.go:29", after := #[{ on := 37, ground := .data }, { on := 44, ground := .data }], guard := none } _ ?_
    try simp only [Act.put, List.setIfInBounds_toArray, List.set_cons_zero, List.set_cons_succ]
    refine tk 46 { dst := some 6, op := .assign (.tmp 71), type := 4, pos := "law.go:29", after := #[{ on := 45, ground := .data }, { on := 43, ground := .chain }, { on := 0, ground := .phase }, { on := 1, ground := .phase }, { on := 2, ground := .phase }, { on := 3, ground := .phase }, { on := 4, ground := .phase }, { on := 5, ground := .phase }, { on := 6, ground := .phase }, { on := 7, ground := .phase }, { on := 8, ground := .phase }, { on := 9, ground := .phase }, { on := 10, ground := .phase }, { on := 11, ground := .phase }, { on := 12, ground := .phase }, { on := 13, ground := .phase }, { on := 14, ground := .phase }, { on := 15, ground := .phase }, { on := 16, ground := .phase }, { on := 17, ground := .phase }, { on := 18, ground := .phase }, { on := 19, ground := .phase }, { on := 20, ground := .phase }, { on := 21, ground := .phase }, { on := 22, ground := .phase }, { on := 23, ground := .phase }, { on := 24, ground := .phase }, { on := 25, ground := .phase }, { on := 26, ground := .phase }, { on := 27, ground := .phase }, { on := 28, ground := .phase }, { on := 29, ground := .phase }, { on := 30, ground := .phase }, { on := 31, ground := .phase }, { on := 32, ground := .phase }, { on := 33, ground := .phase }, { on := 34, ground := .phase }, { on := 35, ground := .phase }, { on := 36, ground := .phase }, { on := 37, ground := .phase }, { on := 38, ground := .phase }, { on := 39, ground := .phase }, { on := 40, ground := .phase }, { on := 41, ground := .phase }, { on := 42, ground := .phase }, { on := 43, ground := .phase }, { on := 44, ground := .phase }, { on := 45, ground := .phase }], guard := none } _ ?_
    try simp only [Act.put, List.setIfInBounds_toArray, List.set_cons_zero, List.set_cons_succ]
    refine wpAnyH_done (by kernel_rfl) ?_ _
    go_wp2_with fail
    go_ret
    exact ⟨rfl, HB.out.trans (q20.mono HB.out.size)⟩
theorem all_walk (j : JtL) (got n : Int) (w : World) (h : j.ok) (w1 : (Lit.int .u16 got).wf = true) (w2 : (Lit.int .i64 n).wf = true) :
    Calls Try.prog 3 #[jtV j, .int .u16 got, .int .i64 n] w fun e w' => e = .returned (.bool true) ∧ Below w.heap.size w w' := by
  obtain ⟨got, rfl, hg⟩ := u16_wf w1
  exact all_nat j got n w h hg (i64_wf w2).1 (i64_wf w2).2
end Go.Proofs.Ytdpfpcdoocampaa.law10
