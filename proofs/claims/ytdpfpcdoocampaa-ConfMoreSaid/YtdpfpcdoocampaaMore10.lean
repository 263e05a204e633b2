/- ConfMore answers true: more nodes never elect or commit less. Conditions: sets are uint16 values, numbers int. -/
import Derived.Test.YtdpfpcdoocampaaBegun10
import Derived.Test.YtdpfpcdoocampaaRef9c
namespace Go.Proofs.Ytdpfpcdoocampaa.law10
open Go Go.RowKit Go.Proofs.Ytdpfpcdoocampaa.kit Go.Proofs.Ytdpfpcdoocampaa.nums Go.Proofs.Ytdpfpcdoocampaa.se Go.Proofs.Ytdpfpcdoocampaa.cf
set_option linter.unusedVariables false

set_option maxHeartbeats 4000000 in
theorem more_nat (j : JtL) (got more : Nat) (w : World) (h : j.ok) (hg : got < 65536) (hm : more < 65536) :
    Calls Try.prog 7 #[jtV j, .int .u16 (got : Int), .int .u16 (more : Int)] w fun e w' => e = .returned (.bool true) ∧ Below w.heap.size w w' := by
  have CB := Lib.hid (fun w => begun_any w)
  have LJ := Lib.hid (fun w => confi.mayJ_any j w h)
  have hu : (got ||| more) &&& 1022 < 65536 := Nat.lt_of_le_of_lt Nat.and_le_right (by omega)
  have hg1 : got &&& 1022 < 65536 := Nat.lt_of_le_of_lt Nat.and_le_right (by omega)
  have hv : unF j votF < 65536 := un_lt (vot_lt h.1) (vot_lt h.2)
  have hmm : unF j memF < 65536 := un_lt (mem_lt h.1) (mem_lt h.2)
  have ho : got ||| more < 65536 := Nat.or_lt_two_pow (n := 16) hg hm
  have A1 := bits_or_u16_nat got more hg hm
  have A2 : bits .and .u16 ((got ||| more : Nat) : Int) 1022 = _ := bits_and_u16_nat (got ||| more) 1022 ho (by omega)
  have A3 : bits .and .u16 (got : Int) 1022 = _ := bits_and_u16_nat got 1022 hg (by omega)
  have E1 := Lib.hid (fun w => confi.elects_any j (got &&& 1022) w h hg1)
  have E2 := Lib.hid (fun w => confi.elects_any j ((got ||| more) &&& 1022) w h hu)
  have C1 := Lib.hid (fun w => confi.commits_any j (got &&& 1022) w h hg1)
  have C2 := Lib.hid (fun w => confi.commits_any j ((got ||| more) &&& 1022) w h hu)
  have CV := Lib.hid (fun w => confi.votingJ_any j w h)
  have EV := Lib.hid (fun w => confi.elects_any j (unF j votF) w h hv)
  have CC := Lib.hid (fun w => confi.commits_any j (unF j votF) w h hv)
  have EZ : Hid (∀ w, Calls Try.prog 23 #[jtV j, .int .u16 0] w fun e w' => e = .returned (.bool (elJ j 0)) ∧ Below w.heap.size w w') := fun w => confi.elects_any j 0 w h (by omega)
  have CZ : Hid (∀ w, Calls Try.prog 25 #[jtV j, .int .u16 0] w fun e w' => e = .returned (.bool (coJ j 0)) ∧ Below w.heap.size w w') := fun w => confi.commits_any j 0 w h (by omega)
  have CM := Lib.hid (fun w => confi.membersJ_any j w h)
  have CN := Lib.hid (fun w => ref9.count_any (unF j memF) w hmm)
  have hsub : (got &&& 1022) &&& ((got ||| more) &&& 1022) = got &&& 1022 := by
    apply Nat.eq_of_testBit_eq
    intro i
    simp only [Nat.testBit_and, Nat.testBit_or]
    cases got.testBit i <;> cases (1022 : Nat).testBit i <;> simp
  have HE := Lib.hid (fun h1 => elJ_more (j := j) hsub h1)
  have HC := Lib.hid (fun h1 => coJ_more (j := j) hsub h1)
  have HM := Lib.hid (fun hj => mem_some (j := j) hj)
  have HEA := Lib.hid (fun hj => elJ_all (j := j) hj)
  have HCA := Lib.hid (fun hj => coJ_all (j := j) hj)
  have HEZ := Lib.hid (fun hj => elJ_none (j := j) hj)
  have HCZ := coJ_none j
  have hn9 := cntF_le (unF j memF)
  rw [HCZ] at CZ
  generalize mayJ j = mj at *
  generalize elJ j (got &&& 1022) = e1 at *
  generalize elJ j ((got ||| more) &&& 1022) = e2 at *
  generalize coJ j (got &&& 1022) = c1 at *
  generalize coJ j ((got ||| more) &&& 1022) = c2 at *
  generalize elJ j (unF j votF) = ev at *
  generalize coJ j (unF j votF) = cv at *
  generalize elJ j 0 = ez at *
  generalize cntF (unF j memF) = n at *
  generalize unF j votF = uv at *
  generalize unF j memF = um at *
  generalize (got ||| more) &&& 1022 = u at *
  generalize got &&& 1022 = g at *
  generalize got ||| more = gm at *
  unfold jtV at *
  obtain ⟨⟨av, aw, al, ae, ak⟩, ⟨bv, bw, bl, be, bk⟩, t⟩ := j
  dsimp only at *
  clear h hsub HCZ
  have k0 : Blk 27 (w.alloc (.cells #[.int .u16 (av : Int), .int .u16 (aw : Int), .int .u16 (al : Int), .int .i64 ae, .int .i64 ak, .int .u16 (bv : Int), .int .u16 (bw : Int), .int .u16 (bl : Int), .int .i64 be, .int .i64 bk, .bool t] 27)) w.heap.size [.int .u16 (av : Int), .int .u16 (aw : Int), .int .u16 (al : Int), .int .i64 ae, .int .i64 ak, .int .u16 (bv : Int), .int .u16 (bw : Int), .int .u16 (bl : Int), .int .i64 be, .int .i64 bk, .bool t] := heap_alloc_new w _
  have HB := Lib.hid ((Below.refl w.heap.size w).alloc (Nat.le_refl _) (.cells #[.int .u16 (av : Int), .int .u16 (aw : Int), .int .u16 (al : Int), .int .i64 ae, .int .i64 ak, .int .u16 (bv : Int), .int .u16 (bw : Int), .int .u16 (bl : Int), .int .i64 be, .int .i64 bk, .bool t] 27))
  have HS : Hid (∀ wq, Below (w.alloc (.cells #[.int .u16 (av : Int), .int .u16 (aw : Int), .int .u16 (al : Int), .int .i64 ae, .int .i64 ak, .int .u16 (bv : Int), .int .u16 (bw : Int), .int .u16 (bl : Int), .int .i64 be, .int .i64 bk, .bool t] 27)).heap.size (w.alloc (.cells #[.int .u16 (av : Int), .int .u16 (aw : Int), .int .u16 (al : Int), .int .i64 ae, .int .i64 ak, .int .u16 (bv : Int), .int .u16 (bw : Int), .int .u16 (bl : Int), .int .i64 be, .int .i64 bk, .bool t] 27)) wq → (wq.cell? ⟨w.heap.size, 0, none⟩ = some (.int .u16 (av : Int)) ∧ wq.cell? ⟨w.heap.size, 1, none⟩ = some (.int .u16 (aw : Int)) ∧ wq.cell? ⟨w.heap.size, 2, none⟩ = some (.int .u16 (al : Int)) ∧ wq.cell? ⟨w.heap.size, 3, none⟩ = some (.int .i64 ae) ∧ wq.cell? ⟨w.heap.size, 4, none⟩ = some (.int .i64 ak) ∧ wq.cell? ⟨w.heap.size, 5, none⟩ = some (.int .u16 (bv : Int)) ∧ wq.cell? ⟨w.heap.size, 6, none⟩ = some (.int .u16 (bw : Int)) ∧ wq.cell? ⟨w.heap.size, 7, none⟩ = some (.int .u16 (bl : Int)) ∧ wq.cell? ⟨w.heap.size, 8, none⟩ = some (.int .i64 be) ∧ wq.cell? ⟨w.heap.size, 9, none⟩ = some (.int .i64 bk) ∧ wq.cell? ⟨w.heap.size, 10, none⟩ = some (.bool t))) := fun wq hq => blk11 (k0.below hq k0.lt)
  have q0 := Below.refl (w.alloc (.cells #[.int .u16 (av : Int), .int .u16 (aw : Int), .int .u16 (al : Int), .int .i64 ae, .int .i64 ak, .int .u16 (bv : Int), .int .u16 (bw : Int), .int .u16 (bl : Int), .int .i64 be, .int .i64 bk, .bool t] 27)).heap.size (w.alloc (.cells #[.int .u16 (av : Int), .int .u16 (aw : Int), .int .u16 (al : Int), .int .i64 ae, .int .i64 ak, .int .u16 (bv : Int), .int .u16 (bw : Int), .int .u16 (bl : Int), .int .i64 be, .int .i64 bk, .bool t] 27))
  clear k0
  go_enter Try.func7, Try.ntmps7
  go_upto_region 1 with (fail)
  generalize (w.alloc (.cells #[.int .u16 (av : Int), .int .u16 (aw : Int), .int .u16 (al : Int), .int .i64 ae, .int .i64 ak, .int .u16 (bv : Int), .int .u16 (bw : Int), .int .u16 (bl : Int), .int .i64 be, .int .i64 bk, .bool t] 27)) = w1 at *
  have r0 := HS.out _ q0
  go_wp2_with fail
  refine (CB.out _).mono ?_
  rintro e y1 ⟨rfl, hY1⟩
  have q1 := q0.trans (hY1.mono q0.size)
  have r1 := HS.out _ q1
  cases mj
  · go_wp2_with fail
    refine (LJ.out _).mono ?_
    rintro e y2 ⟨rfl, hY2⟩
    have q2 := q1.trans (hY2.mono q1.size)
    have r2 := HS.out _ q2
    go_wp2_with fail
    go_ret
    exact ⟨rfl, HB.out.trans (q2.mono HB.out.size)⟩
  · obtain rfl : ev = true := HEA.out rfl
    obtain rfl : cv = true := HCA.out rfl
    obtain rfl : ez = false := HEZ.out rfl
    have hn1 : 1 ≤ n := HM.out rfl
    have gn : decide ((1 : Int) ≤ (n : Int)) = true := decide_eq_true (by omega)
    clear HEA HCA HEZ HM
    go_wp2_with fail
    refine (LJ.out _).mono ?_
    rintro e y2 ⟨rfl, hY2⟩
    have q2 := q1.trans (hY2.mono q1.size)
    have r2 := HS.out _ q2
    go_upto_region 6 with (fail)
    cases e1
    · cases c1
      · have q3 := q2.drew
        refine wp_region_held_drew (S := fun wq => (wq.cell? ⟨w.heap.size, 0, none⟩ = some (.int .u16 (av : Int)) ∧ wq.cell? ⟨w.heap.size, 1, none⟩ = some (.int .u16 (aw : Int)) ∧ wq.cell? ⟨w.heap.size, 2, none⟩ = some (.int .u16 (al : Int)) ∧ wq.cell? ⟨w.heap.size, 3, none⟩ = some (.int .i64 ae) ∧ wq.cell? ⟨w.heap.size, 4, none⟩ = some (.int .i64 ak) ∧ wq.cell? ⟨w.heap.size, 5, none⟩ = some (.int .u16 (bv : Int)) ∧ wq.cell? ⟨w.heap.size, 6, none⟩ = some (.int .u16 (bw : Int)) ∧ wq.cell? ⟨w.heap.size, 7, none⟩ = some (.int .u16 (bl : Int)) ∧ wq.cell? ⟨w.heap.size, 8, none⟩ = some (.int .i64 be) ∧ wq.cell? ⟨w.heap.size, 9, none⟩ = some (.int .i64 bk) ∧ wq.cell? ⟨w.heap.size, 10, none⟩ = some (.bool t))) (by kernel_rfl) ?s_more00 (fun hHeld => ?_)
        case s_more00 => exact HS.out _ q3
        refine tk 0 { dst := some 17, op := .load 27 (.tmp 3), type := 27, pos := "law.go:95", after := #[], guard := none } _ ?_
        try simp only [Act.put, List.setIfInBounds_toArray, List.set_cons_zero, List.set_cons_succ]
        refine tk 1 { dst := some 18, op := .move (.tmp 1), type := 23, pos := "law.go:95", after := #[], guard := none } _ ?_
        try simp only [Act.put, List.setIfInBounds_toArray, List.set_cons_zero, List.set_cons_succ]
        refine tk 2 { dst := some 19, op := .binOp .and 23 (.tmp 18) (.const (.int .u16 1022)) 23, type := 23, pos := "law.go:95", after := #[{ on := 1, ground := .data }], guard := none } _ ?_
        try simp only [Act.put, List.setIfInBounds_toArray, List.set_cons_zero, List.set_cons_succ]
        refine wpAnyH_ready (rs := [3]) (by kernel_rfl) (by simp) ?_
        refine AllReadyH.cons (o := { dst := some 20, op := .call { callee := .value (.func 23), args := #[.tmp 17, .tmp 19], argTypes := #[27, 23] }, type := 4, pos := "law.go:95", after := #[{ on := 0, ground := .data }, { on := 2, ground := .data }], guard := none }) rfl (fun KQ hKQ => ?_) AllReadyH.nil
        go_simp
        refine (E1.out _).mono ?_
        rintro e y4 ⟨rfl, hY4⟩
        have q4 := q3.trans (hY4.mono q3.size)
        have r4 := HS.out _ q4
        go_wp2_with fail
        refine hKQ.out _ _ ?s_3 (fun hHeld3 => ?_)
        case s_3 => exact r4
        clear hKQ KQ
        try simp only [Act.put, List.setIfInBounds_toArray, List.set_cons_zero, List.set_cons_succ]
        refine tk 4 { dst := some 21, op := .unOp .not 4 (.tmp 20), type := 4, pos := "law.go:95", after := #[{ on := 3, ground := .data }], guard := none } _ ?_
        try simp only [Act.put, List.setIfInBounds_toArray, List.set_cons_zero, List.set_cons_succ]
        refine tk 5 { dst := some 22, op := .move (.tmp 21), type := 4, pos := "law.go:95", after := #[{ on := 4, ground := .data }, { on := 3, ground := .chain }], guard := none } _ ?_
        try simp only [Act.put, List.setIfInBounds_toArray, List.set_cons_zero, List.set_cons_succ]
        refine tu 6 { dst := some 23, op := .load 27 (.tmp 3), type := 27, pos := "law.go:95", after := #[{ on := 5, ground := .guard }], guard := some (5, false) } ?_
        try simp only [Act.put, List.setIfInBounds_toArray, List.set_cons_zero, List.set_cons_succ]
        refine tu 7 { dst := some 24, op := .move (.tmp 7), type := 23, pos := "law.go:95", after := #[{ on := 5, ground := .guard }], guard := some (5, false) } ?_
        try simp only [Act.put, List.setIfInBounds_toArray, List.set_cons_zero, List.set_cons_succ]
        refine tu 8 { dst := some 25, op := .call { callee := .value (.func 23), args := #[.tmp 23, .tmp 24], argTypes := #[27, 23] }, type := 4, pos := "law.go:95", after := #[{ on := 6, ground := .data }, { on := 7, ground := .data }, { on := 5, ground := .chain }, { on := 5, ground := .guard }], guard := some (5, false) } ?_
        try simp only [Act.put, List.setIfInBounds_toArray, List.set_cons_zero, List.set_cons_succ]
        refine tk 9 { dst := some 26, op := .pick (.tmp 22) (.const (.bool true)) (.tmp 25), type := 4, pos := "law.go:95", after := #[{ on := 5, ground := .data }, { on := 8, ground := .data }], guard := none } _ ?_
        try simp only [Act.put, List.setIfInBounds_toArray, List.set_cons_zero, List.set_cons_succ]
        refine tk 10 { dst := some 27, op := .move (.tmp 26), type := 4, pos := "law.go:95", after := #[{ on := 9, ground := .data }, { on := 8, ground := .chain }], guard := none } _ ?_
        try simp only [Act.put, List.setIfInBounds_toArray, List.set_cons_zero, List.set_cons_succ]
        refine tk 11 { dst := some 28, op := .load 27 (.tmp 3), type := 27, pos := "law.go:95", after := #[{ on := 10, ground := .guard }], guard := some (10, true) } _ ?_
        try simp only [Act.put, List.setIfInBounds_toArray, List.set_cons_zero, List.set_cons_succ]
        refine tk 12 { dst := some 29, op := .move (.tmp 1), type := 23, pos := "law.go:95", after := #[{ on := 10, ground := .guard }], guard := some (10, true) } _ ?_
        try simp only [Act.put, List.setIfInBounds_toArray, List.set_cons_zero, List.set_cons_succ]
        refine tk 13 { dst := some 30, op := .binOp .and 23 (.tmp 29) (.const (.int .u16 1022)) 23, type := 23, pos := "law.go:95", after := #[{ on := 12, ground := .data }, { on := 10, ground := .guard }], guard := some (10, true) } _ ?_
        try simp only [Act.put, List.setIfInBounds_toArray, List.set_cons_zero, List.set_cons_succ]
        refine wpAnyH_ready (rs := [14]) (by kernel_rfl) (by simp) ?_
        refine AllReadyH.cons (o := { dst := some 31, op := .call { callee := .value (.func 25), args := #[.tmp 28, .tmp 30], argTypes := #[27, 23] }, type := 4, pos := "law.go:95", after := #[{ on := 11, ground := .data }, { on := 13, ground := .data }, { on := 10, ground := .chain }, { on := 10, ground := .guard }], guard := some (10, true) }) rfl (fun KQ hKQ => ?_) AllReadyH.nil
        go_simp
        refine (C1.out _).mono ?_
        rintro e y5 ⟨rfl, hY5⟩
        have q5 := q4.trans (hY5.mono q4.size)
        have r5 := HS.out _ q5
        go_wp2_with fail
        refine hKQ.out _ _ ?s_14 (fun hHeld14 => ?_)
        case s_14 => exact r5
        clear hKQ KQ
        try simp only [Act.put, List.setIfInBounds_toArray, List.set_cons_zero, List.set_cons_succ]
        refine tk 15 { dst := some 32, op := .unOp .not 4 (.tmp 31), type := 4, pos := "law.go:95", after := #[{ on := 14, ground := .data }, { on := 10, ground := .guard }], guard := some (10, true) } _ ?_
        try simp only [Act.put, List.setIfInBounds_toArray, List.set_cons_zero, List.set_cons_succ]
        refine tk 16 { dst := some 33, op := .move (.tmp 32), type := 4, pos := "law.go:95", after := #[{ on := 15, ground := .data }, { on := 14, ground := .chain }, { on := 10, ground := .guard }], guard := some (10, true) } _ ?_
        try simp only [Act.put, List.setIfInBounds_toArray, List.set_cons_zero, List.set_cons_succ]
        refine tu 17 { dst := some 34, op := .load 27 (.tmp 3), type := 27, pos := "law.go:95", after := #[{ on := 16, ground := .guard }], guard := some (16, false) } ?_
        try simp only [Act.put, List.setIfInBounds_toArray, List.set_cons_zero, List.set_cons_succ]
        refine tu 18 { dst := some 35, op := .move (.tmp 7), type := 23, pos := "law.go:95", after := #[{ on := 16, ground := .guard }], guard := some (16, false) } ?_
        try simp only [Act.put, List.setIfInBounds_toArray, List.set_cons_zero, List.set_cons_succ]
        refine tu 19 { dst := some 36, op := .call { callee := .value (.func 25), args := #[.tmp 34, .tmp 35], argTypes := #[27, 23] }, type := 4, pos := "law.go:95", after := #[{ on := 17, ground := .data }, { on := 18, ground := .data }, { on := 16, ground := .chain }, { on := 16, ground := .guard }], guard := some (16, false) } ?_
        try simp only [Act.put, List.setIfInBounds_toArray, List.set_cons_zero, List.set_cons_succ]
        refine tk 20 { dst := some 37, op := .pick (.tmp 33) (.const (.bool true)) (.tmp 36), type := 4, pos := "law.go:95", after := #[{ on := 16, ground := .data }, { on := 19, ground := .data }, { on := 10, ground := .guard }], guard := some (10, true) } _ ?_
        try simp only [Act.put, List.setIfInBounds_toArray, List.set_cons_zero, List.set_cons_succ]
        refine tk 21 { dst := some 38, op := .pick (.tmp 27) (.tmp 37) (.const (.bool false)), type := 4, pos := "law.go:95", after := #[{ on := 10, ground := .data }, { on := 20, ground := .data }], guard := none } _ ?_
        try simp only [Act.put, List.setIfInBounds_toArray, List.set_cons_zero, List.set_cons_succ]
        refine tk 22 { dst := some 39, op := .move (.tmp 38), type := 4, pos := "law.go:95", after := #[{ on := 21, ground := .data }, { on := 19, ground := .chain }], guard := none } _ ?_
        try simp only [Act.put, List.setIfInBounds_toArray, List.set_cons_zero, List.set_cons_succ]
        refine tk 23 { dst := some 40, op := .load 27 (.tmp 3), type := 27, pos := "law.go:95", after := #[{ on := 22, ground := .guard }], guard := some (22, true) } _ ?_
        try simp only [Act.put, List.setIfInBounds_toArray, List.set_cons_zero, List.set_cons_succ]
        refine tk 24 { dst := some 41, op := .load 27 (.tmp 3), type := 27, pos := "law.go:95", after := #[{ on := 22, ground := .guard }], guard := some (22, true) } _ ?_
        try simp only [Act.put, List.setIfInBounds_toArray, List.set_cons_zero, List.set_cons_succ]
        refine wpAnyH_ready (rs := [25]) (by kernel_rfl) (by simp) ?_
        refine AllReadyH.cons (o := { dst := some 42, op := .call { callee := .value (.func 17), args := #[.tmp 41], argTypes := #[27] }, type := 23, pos := "law.go:95", after := #[{ on := 24, ground := .data }, { on := 22, ground := .chain }, { on := 22, ground := .guard }], guard := some (22, true) }) rfl (fun KQ hKQ => ?_) AllReadyH.nil
        go_simp
        refine (CV.out _).mono ?_
        rintro e y6 ⟨rfl, hY6⟩
        have q6 := q5.trans (hY6.mono q5.size)
        have r6 := HS.out _ q6
        go_wp2_with fail
        refine hKQ.out _ _ ?s_25 (fun hHeld25 => ?_)
        case s_25 => exact r6
        clear hKQ KQ
        try simp only [Act.put, List.setIfInBounds_toArray, List.set_cons_zero, List.set_cons_succ]
        refine wpAnyH_ready (rs := [26]) (by kernel_rfl) (by simp) ?_
        refine AllReadyH.cons (o := { dst := some 43, op := .call { callee := .value (.func 23), args := #[.tmp 40, .tmp 42], argTypes := #[27, 23] }, type := 4, pos := "law.go:95", after := #[{ on := 23, ground := .data }, { on := 25, ground := .data }, { on := 25, ground := .chain }, { on := 22, ground := .guard }], guard := some (22, true) }) rfl (fun KQ hKQ => ?_) AllReadyH.nil
        go_simp
        refine (EV.out _).mono ?_
        rintro e y7 ⟨rfl, hY7⟩
        have q7 := q6.trans (hY7.mono q6.size)
        have r7 := HS.out _ q7
        go_wp2_with fail
        refine hKQ.out _ _ ?s_26 (fun hHeld26 => ?_)
        case s_26 => exact r7
        clear hKQ KQ
        try simp only [Act.put, List.setIfInBounds_toArray, List.set_cons_zero, List.set_cons_succ]
        refine tk 27 { dst := some 44, op := .pick (.tmp 39) (.tmp 43) (.const (.bool false)), type := 4, pos := "law.go:95", after := #[{ on := 22, ground := .data }, { on := 26, ground := .data }], guard := none } _ ?_
        try simp only [Act.put, List.setIfInBounds_toArray, List.set_cons_zero, List.set_cons_succ]
        refine tk 28 { dst := some 45, op := .move (.tmp 44), type := 4, pos := "law.go:95", after := #[{ on := 27, ground := .data }, { on := 26, ground := .chain }], guard := none } _ ?_
        try simp only [Act.put, List.setIfInBounds_toArray, List.set_cons_zero, List.set_cons_succ]
        refine tk 29 { dst := some 46, op := .load 27 (.tmp 3), type := 27, pos := "law.go:95", after := #[{ on := 28, ground := .guard }], guard := some (28, true) } _ ?_
        try simp only [Act.put, List.setIfInBounds_toArray, List.set_cons_zero, List.set_cons_succ]
        refine tk 30 { dst := some 47, op := .load 27 (.tmp 3), type := 27, pos := "law.go:95", after := #[{ on := 28, ground := .guard }], guard := some (28, true) } _ ?_
        try simp only [Act.put, List.setIfInBounds_toArray, List.set_cons_zero, List.set_cons_succ]
        refine wpAnyH_ready (rs := [31]) (by kernel_rfl) (by simp) ?_
        refine AllReadyH.cons (o := { dst := some 48, op := .call { callee := .value (.func 17), args := #[.tmp 47], argTypes := #[27] }, type := 23, pos := "law.go:95", after := #[{ on := 30, ground := .data }, { on := 28, ground := .chain }, { on := 28, ground := .guard }], guard := some (28, true) }) rfl (fun KQ hKQ => ?_) AllReadyH.nil
        go_simp
        refine (CV.out _).mono ?_
        rintro e y8 ⟨rfl, hY8⟩
        have q8 := q7.trans (hY8.mono q7.size)
        have r8 := HS.out _ q8
        go_wp2_with fail
        refine hKQ.out _ _ ?s_31 (fun hHeld31 => ?_)
        case s_31 => exact r8
        clear hKQ KQ
        try simp only [Act.put, List.setIfInBounds_toArray, List.set_cons_zero, List.set_cons_succ]
        refine wpAnyH_ready (rs := [32]) (by kernel_rfl) (by simp) ?_
        refine AllReadyH.cons (o := { dst := some 49, op := .call { callee := .value (.func 25), args := #[.tmp 46, .tmp 48], argTypes := #[27, 23] }, type := 4, pos := "law.go:95", after := #[{ on := 29, ground := .data }, { on := 31, ground := .data }, { on := 31, ground := .chain }, { on := 28, ground := .guard }], guard := some (28, true) }) rfl (fun KQ hKQ => ?_) AllReadyH.nil
        go_simp
        refine (CC.out _).mono ?_
        rintro e y9 ⟨rfl, hY9⟩
        have q9 := q8.trans (hY9.mono q8.size)
        have r9 := HS.out _ q9
        go_wp2_with fail
        refine hKQ.out _ _ ?s_32 (fun hHeld32 => ?_)
        case s_32 => exact r9
        clear hKQ KQ
        try simp only [Act.put, List.setIfInBounds_toArray, List.set_cons_zero, List.set_cons_succ]
        refine tk 33 { dst := some 50, op := .pick (.tmp 45) (.tmp 49) (.const (.bool false)), type := 4, pos := "law.go:95", after := #[{ on := 28, ground := .data }, { on := 32, ground := .data }], guard := none } _ ?_
        try simp only [Act.put, List.setIfInBounds_toArray, List.set_cons_zero, List.set_cons_succ]
        refine tk 34 { dst := some 51, op := .move (.tmp 50), type := 4, pos := "law.go:95", after := #[{ on := 33, ground := .data }, { on := 32, ground := .chain }], guard := none } _ ?_
        try simp only [Act.put, List.setIfInBounds_toArray, List.set_cons_zero, List.set_cons_succ]
        refine tk 35 { dst := some 52, op := .load 27 (.tmp 3), type := 27, pos := "law.go:95", after := #[{ on := 34, ground := .guard }], guard := some (34, true) } _ ?_
        try simp only [Act.put, List.setIfInBounds_toArray, List.set_cons_zero, List.set_cons_succ]
        refine wpAnyH_ready (rs := [36]) (by kernel_rfl) (by simp) ?_
        refine AllReadyH.cons (o := { dst := some 53, op := .call { callee := .value (.func 23), args := #[.tmp 52, .const (.int .u16 0)], argTypes := #[27, 23] }, type := 4, pos := "law.go:95", after := #[{ on := 35, ground := .data }, { on := 34, ground := .chain }, { on := 34, ground := .guard }], guard := some (34, true) }) rfl (fun KQ hKQ => ?_) AllReadyH.nil
        go_simp
        refine (EZ.out _).mono ?_
        rintro e y10 ⟨rfl, hY10⟩
        have q10 := q9.trans (hY10.mono q9.size)
        have r10 := HS.out _ q10
        go_wp2_with fail
        refine hKQ.out _ _ ?s_36 (fun hHeld36 => ?_)
        case s_36 => exact r10
        clear hKQ KQ
        try simp only [Act.put, List.setIfInBounds_toArray, List.set_cons_zero, List.set_cons_succ]
        refine tk 37 { dst := some 54, op := .unOp .not 4 (.tmp 53), type := 4, pos := "law.go:95", after := #[{ on := 36, ground := .data }, { on := 34, ground := .guard }], guard := some (34, true) } _ ?_
        try simp only [Act.put, List.setIfInBounds_toArray, List.set_cons_zero, List.set_cons_succ]
        refine tk 38 { dst := some 55, op := .pick (.tmp 51) (.tmp 54) (.const (.bool false)), type := 4, pos := "law.go:95", after := #[{ on := 34, ground := .data }, { on := 37, ground := .data }], guard := none } _ ?_
        try simp only [Act.put, List.setIfInBounds_toArray, List.set_cons_zero, List.set_cons_succ]
        refine tk 39 { dst := some 56, op := .move (.tmp 55), type := 4, pos := "law.go:95", after := #[{ on := 38, ground := .data }, { on := 36, ground := .chain }], guard := none } _ ?_
        try simp only [Act.put, List.setIfInBounds_toArray, List.set_cons_zero, List.set_cons_succ]
        refine tk 40 { dst := some 57, op := .load 27 (.tmp 3), type := 27, pos := "law.go:95", after := #[{ on := 39, ground := .guard }], guard := some (39, true) } _ ?_
        try simp only [Act.put, List.setIfInBounds_toArray, List.set_cons_zero, List.set_cons_succ]
        refine wpAnyH_ready (rs := [41]) (by kernel_rfl) (by simp) ?_
        refine AllReadyH.cons (o := { dst := some 58, op := .call { callee := .value (.func 25), args := #[.tmp 57, .const (.int .u16 0)], argTypes := #[27, 23] }, type := 4, pos := "law.go:95", after := #[{ on := 40, ground := .data }, { on := 39, ground := .chain }, { on := 39, ground := .guard }], guard := some (39, true) }) rfl (fun KQ hKQ => ?_) AllReadyH.nil
        go_simp
        refine (CZ.out _).mono ?_
        rintro e y11 ⟨rfl, hY11⟩
        have q11 := q10.trans (hY11.mono q10.size)
        have r11 := HS.out _ q11
        go_wp2_with fail
        refine hKQ.out _ _ ?s_41 (fun hHeld41 => ?_)
        case s_41 => exact r11
        clear hKQ KQ
        try simp only [Act.put, List.setIfInBounds_toArray, List.set_cons_zero, List.set_cons_succ]
        refine tk 42 { dst := some 59, op := .unOp .not 4 (.tmp 58), type := 4, pos := "law.go:95", after := #[{ on := 41, ground := .data }, { on := 39, ground := .guard }], guard := some (39, true) } _ ?_
        try simp only [Act.put, List.setIfInBounds_toArray, List.set_cons_zero, List.set_cons_succ]
        refine tk 43 { dst := some 60, op := .pick (.tmp 56) (.tmp 59) (.const (.bool false)), type := 4, pos := "law.go:95", after := #[{ on := 39, ground := .data }, { on := 42, ground := .data }], guard := none } _ ?_
        try simp only [Act.put, List.setIfInBounds_toArray, List.set_cons_zero, List.set_cons_succ]
        refine tk 44 { dst := some 61, op := .move (.tmp 60), type := 4, pos := "law.go:95", after := #[{ on := 43, ground := .data }, { on := 41, ground := .chain }], guard := none } _ ?_
        try simp only [Act.put, List.setIfInBounds_toArray, List.set_cons_zero, List.set_cons_succ]
        refine tk 45 { dst := some 62, op := .load 27 (.tmp 3), type := 27, pos := "law.go:95", after := #[{ on := 44, ground := .guard }], guard := some (44, true) } _ ?_
        try simp only [Act.put, List.setIfInBounds_toArray, List.set_cons_zero, List.set_cons_succ]
        refine wpAnyH_ready (rs := [46]) (by kernel_rfl) (by simp) ?_
        refine AllReadyH.cons (o := { dst := some 63, op := .call { callee := .value (.func 15), args := #[.tmp 62], argTypes := #[27] }, type := 23, pos := "law.go:95", after := #[{ on := 45, ground := .data }, { on := 44, ground := .chain }, { on := 44, ground := .guard }], guard := some (44, true) }) rfl (fun KQ hKQ => ?_) AllReadyH.nil
        go_simp
        refine (CM.out _).mono ?_
        rintro e y12 ⟨rfl, hY12⟩
        have q12 := q11.trans (hY12.mono q11.size)
        have r12 := HS.out _ q12
        go_wp2_with fail
        refine hKQ.out _ _ ?s_46 (fun hHeld46 => ?_)
        case s_46 => exact r12
        clear hKQ KQ
        try simp only [Act.put, List.setIfInBounds_toArray, List.set_cons_zero, List.set_cons_succ]
        refine wpAnyH_ready (rs := [47]) (by kernel_rfl) (by simp) ?_
        refine AllReadyH.cons (o := { dst := some 64, op := .call { callee := .value (.func 33), args := #[.tmp 63], argTypes := #[23] }, type := 3, pos := "law.go:95", after := #[{ on := 46, ground := .data }, { on := 46, ground := .chain }, { on := 44, ground := .guard }], guard := some (44, true) }) rfl (fun KQ hKQ => ?_) AllReadyH.nil
        go_simp
        refine (CN.out _).mono ?_
        rintro e y13 ⟨rfl, hY13⟩
        have q13 := q12.trans (hY13.mono q12.size)
        have r13 := HS.out _ q13
        go_wp2_with fail
        refine hKQ.out _ _ ?s_47 (fun hHeld47 => ?_)
        case s_47 => exact r13
        clear hKQ KQ
        try simp only [Act.put, List.setIfInBounds_toArray, List.set_cons_zero, List.set_cons_succ]
        refine tk 48 { dst := some 65, op := .binOp .geq 3 (.tmp 64) (.const (.int .i64 1)) 3, type := 4, pos := "law.go:95", after := #[{ on := 47, ground := .data }, { on := 44, ground := .guard }], guard := some (44, true) } _ ?_
        try simp only [Act.put, List.setIfInBounds_toArray, List.set_cons_zero, List.set_cons_succ]
        refine tk 49 { dst := some 66, op := .pick (.tmp 61) (.tmp 65) (.const (.bool false)), type := 4, pos := "law.go:95", after := #[{ on := 44, ground := .data }, { on := 48, ground := .data }], guard := none } _ ?_
        try simp only [Act.put, List.setIfInBounds_toArray, List.set_cons_zero, List.set_cons_succ]
        refine tk 50 { dst := some 6, op := .assign (.tmp 66), type := 4, pos := "law.go:95", after := #[{ on := 49, ground := .data }, { on := 47, ground := .chain }, { on := 0, ground := .phase }, { on := 1, ground := .phase }, { on := 2, ground := .phase }, { on := 3, ground := .phase }, { on := 4, ground := .phase }, { on := 5, ground := .phase }, { on := 6, ground := .phase }, { on := 7, ground := .phase }, { on := 8, ground := .phase }, { on := 9, ground := .phase }, { on := 10, ground := .phase }, { on := 11, ground := .phase }, { on := 12, ground := .phase }, { on := 13, ground := .phase }, { on := 14, ground := .phase }, { on := 15, ground := .phase }, { on := 16, ground := .phase }, { on := 17, ground := .phase }, { on := 18, ground := .phase }, { on := 19, ground := .phase }, { on := 20, ground := .phase }, { on := 21, ground := .phase }, { on := 22, ground := .phase }, { on := 23, ground := .phase }, { on := 24, ground := .phase }, { on := 25, ground := .phase }, { on := 26, ground := .phase }, { on := 27, ground := .phase }, { on := 28, ground := .phase }, { on := 29, ground := .phase }, { on := 30, ground := .phase }, { on := 31, ground := .phase }, { on := 32, ground := .phase }, { on := 33, ground := .phase }, { on := 34, ground := .phase }, { on := 35, ground := .phase }, { on := 36, ground := .phase }, { on := 37, ground := .phase }, { on := 38, ground := .phase }, { on := 39, ground := .phase }, { on := 40, ground := .phase }, { on := 41, ground := .phase }, { on := 42, ground := .phase }, { on := 43, ground := .phase }, { on := 44, ground := .phase }, { on := 45, ground := .phase }, { on := 46, ground := .phase }, { on := 47, ground := .phase }, { on := 48, ground := .phase }, { on := 49, ground := .phase }], guard := none } _ ?_
        try simp only [Act.put, List.setIfInBounds_toArray, List.set_cons_zero, List.set_cons_succ]
        refine wpAnyH_done (by kernel_rfl) ?_ _
        go_wp2_with fail
        go_ret
        exact ⟨ref9.ret_bool (by simp), HB.out.trans (q13.mono HB.out.size)⟩
      · obtain rfl : c2 = true := HC.out rfl
        have q3 := q2.drew
        refine wp_region_held_drew (S := fun wq => (wq.cell? ⟨w.heap.size, 0, none⟩ = some (.int .u16 (av : Int)) ∧ wq.cell? ⟨w.heap.size, 1, none⟩ = some (.int .u16 (aw : Int)) ∧ wq.cell? ⟨w.heap.size, 2, none⟩ = some (.int .u16 (al : Int)) ∧ wq.cell? ⟨w.heap.size, 3, none⟩ = some (.int .i64 ae) ∧ wq.cell? ⟨w.heap.size, 4, none⟩ = some (.int .i64 ak) ∧ wq.cell? ⟨w.heap.size, 5, none⟩ = some (.int .u16 (bv : Int)) ∧ wq.cell? ⟨w.heap.size, 6, none⟩ = some (.int .u16 (bw : Int)) ∧ wq.cell? ⟨w.heap.size, 7, none⟩ = some (.int .u16 (bl : Int)) ∧ wq.cell? ⟨w.heap.size, 8, none⟩ = some (.int .i64 be) ∧ wq.cell? ⟨w.heap.size, 9, none⟩ = some (.int .i64 bk) ∧ wq.cell? ⟨w.heap.size, 10, none⟩ = some (.bool t))) (by kernel_rfl) ?s_more01 (fun hHeld => ?_)
        case s_more01 => exact HS.out _ q3
        refine tk 0 { dst := some 17, op := .load 27 (.tmp 3), type := 27, pos := "law.go:95", after := #[], guard := none } _ ?_
        try simp only [Act.put, List.setIfInBounds_toArray, List.set_cons_zero, List.set_cons_succ]
        refine tk 1 { dst := some 18, op := .move (.tmp 1), type := 23, pos := "law.go:95", after := #[], guard := none } _ ?_
        try simp only [Act.put, List.setIfInBounds_toArray, List.set_cons_zero, List.set_cons_succ]
        refine tk 2 { dst := some 19, op := .binOp .and 23 (.tmp 18) (.const (.int .u16 1022)) 23, type := 23, pos := "law.go:95", after := #[{ on := 1, ground := .data }], guard := none } _ ?_
        try simp only [Act.put, List.setIfInBounds_toArray, List.set_cons_zero, List.set_cons_succ]
        refine wpAnyH_ready (rs := [3]) (by kernel_rfl) (by simp) ?_
        refine AllReadyH.cons (o := { dst := some 20, op := .call { callee := .value (.func 23), args := #[.tmp 17, .tmp 19], argTypes := #[27, 23] }, type := 4, pos := "law.go:95", after := #[{ on := 0, ground := .data }, { on := 2, ground := .data }], guard := none }) rfl (fun KQ hKQ => ?_) AllReadyH.nil
        go_simp
        refine (E1.out _).mono ?_
        rintro e y4 ⟨rfl, hY4⟩
        have q4 := q3.trans (hY4.mono q3.size)
        have r4 := HS.out _ q4
        go_wp2_with fail
        refine hKQ.out _ _ ?s_3 (fun hHeld3 => ?_)
        case s_3 => exact r4
        clear hKQ KQ
        try simp only [Act.put, List.setIfInBounds_toArray, List.set_cons_zero, List.set_cons_succ]
        refine tk 4 { dst := some 21, op := .unOp .not 4 (.tmp 20), type := 4, pos := "law.go:95", after := #[{ on := 3, ground := .data }], guard := none } _ ?_
        try simp only [Act.put, List.setIfInBounds_toArray, List.set_cons_zero, List.set_cons_succ]
        refine tk 5 { dst := some 22, op := .move (.tmp 21), type := 4, pos := "law.go:95", after := #[{ on := 4, ground := .data }, { on := 3, ground := .chain }], guard := none } _ ?_
        try simp only [Act.put, List.setIfInBounds_toArray, List.set_cons_zero, List.set_cons_succ]
        refine tu 6 { dst := some 23, op := .load 27 (.tmp 3), type := 27, pos := "law.go:95", after := #[{ on := 5, ground := .guard }], guard := some (5, false) } ?_
        try simp only [Act.put, List.setIfInBounds_toArray, List.set_cons_zero, List.set_cons_succ]
        refine tu 7 { dst := some 24, op := .move (.tmp 7), type := 23, pos := "law.go:95", after := #[{ on := 5, ground := .guard }], guard := some (5, false) } ?_
        try simp only [Act.put, List.setIfInBounds_toArray, List.set_cons_zero, List.set_cons_succ]
        refine tu 8 { dst := some 25, op := .call { callee := .value (.func 23), args := #[.tmp 23, .tmp 24], argTypes := #[27, 23] }, type := 4, pos := "law.go:95", after := #[{ on := 6, ground := .data }, { on := 7, ground := .data }, { on := 5, ground := .chain }, { on := 5, ground := .guard }], guard := some (5, false) } ?_
        try simp only [Act.put, List.setIfInBounds_toArray, List.set_cons_zero, List.set_cons_succ]
        refine tk 9 { dst := some 26, op := .pick (.tmp 22) (.const (.bool true)) (.tmp 25), type := 4, pos := "law.go:95", after := #[{ on := 5, ground := .data }, { on := 8, ground := .data }], guard := none } _ ?_
        try simp only [Act.put, List.setIfInBounds_toArray, List.set_cons_zero, List.set_cons_succ]
        refine tk 10 { dst := some 27, op := .move (.tmp 26), type := 4, pos := "law.go:95", after := #[{ on := 9, ground := .data }, { on := 8, ground := .chain }], guard := none } _ ?_
        try simp only [Act.put, List.setIfInBounds_toArray, List.set_cons_zero, List.set_cons_succ]
        refine tk 11 { dst := some 28, op := .load 27 (.tmp 3), type := 27, pos := "law.go:95", after := #[{ on := 10, ground := .guard }], guard := some (10, true) } _ ?_
        try simp only [Act.put, List.setIfInBounds_toArray, List.set_cons_zero, List.set_cons_succ]
        refine tk 12 { dst := some 29, op := .move (.tmp 1), type := 23, pos := "law.go:95", after := #[{ on := 10, ground := .guard }], guard := some (10, true) } _ ?_
        try simp only [Act.put, List.setIfInBounds_toArray, List.set_cons_zero, List.set_cons_succ]
        refine tk 13 { dst := some 30, op := .binOp .and 23 (.tmp 29) (.const (.int .u16 1022)) 23, type := 23, pos := "law.go:95", after := #[{ on := 12, ground := .data }, { on := 10, ground := .guard }], guard := some (10, true) } _ ?_
        try simp only [Act.put, List.setIfInBounds_toArray, List.set_cons_zero, List.set_cons_succ]
        refine wpAnyH_ready (rs := [14]) (by kernel_rfl) (by simp) ?_
        refine AllReadyH.cons (o := { dst := some 31, op := .call { callee := .value (.func 25), args := #[.tmp 28, .tmp 30], argTypes := #[27, 23] }, type := 4, pos := "law.go:95", after := #[{ on := 11, ground := .data }, { on := 13, ground := .data }, { on := 10, ground := .chain }, { on := 10, ground := .guard }], guard := some (10, true) }) rfl (fun KQ hKQ => ?_) AllReadyH.nil
        go_simp
        refine (C1.out _).mono ?_
        rintro e y5 ⟨rfl, hY5⟩
        have q5 := q4.trans (hY5.mono q4.size)
        have r5 := HS.out _ q5
        go_wp2_with fail
        refine hKQ.out _ _ ?s_14 (fun hHeld14 => ?_)
        case s_14 => exact r5
        clear hKQ KQ
        try simp only [Act.put, List.setIfInBounds_toArray, List.set_cons_zero, List.set_cons_succ]
        refine tk 15 { dst := some 32, op := .unOp .not 4 (.tmp 31), type := 4, pos := "law.go:95", after := #[{ on := 14, ground := .data }, { on := 10, ground := .guard }], guard := some (10, true) } _ ?_
        try simp only [Act.put, List.setIfInBounds_toArray, List.set_cons_zero, List.set_cons_succ]
        refine tk 16 { dst := some 33, op := .move (.tmp 32), type := 4, pos := "law.go:95", after := #[{ on := 15, ground := .data }, { on := 14, ground := .chain }, { on := 10, ground := .guard }], guard := some (10, true) } _ ?_
        try simp only [Act.put, List.setIfInBounds_toArray, List.set_cons_zero, List.set_cons_succ]
        refine tk 17 { dst := some 34, op := .load 27 (.tmp 3), type := 27, pos := "law.go:95", after := #[{ on := 16, ground := .guard }], guard := some (16, false) } _ ?_
        try simp only [Act.put, List.setIfInBounds_toArray, List.set_cons_zero, List.set_cons_succ]
        refine tk 18 { dst := some 35, op := .move (.tmp 7), type := 23, pos := "law.go:95", after := #[{ on := 16, ground := .guard }], guard := some (16, false) } _ ?_
        try simp only [Act.put, List.setIfInBounds_toArray, List.set_cons_zero, List.set_cons_succ]
        refine wpAnyH_ready (rs := [19]) (by kernel_rfl) (by simp) ?_
        refine AllReadyH.cons (o := { dst := some 36, op := .call { callee := .value (.func 25), args := #[.tmp 34, .tmp 35], argTypes := #[27, 23] }, type := 4, pos := "law.go:95", after := #[{ on := 17, ground := .data }, { on := 18, ground := .data }, { on := 16, ground := .chain }, { on := 16, ground := .guard }], guard := some (16, false) }) rfl (fun KQ hKQ => ?_) AllReadyH.nil
        go_simp
        refine (C2.out _).mono ?_
        rintro e y6 ⟨rfl, hY6⟩
        have q6 := q5.trans (hY6.mono q5.size)
        have r6 := HS.out _ q6
        go_wp2_with fail
        refine hKQ.out _ _ ?s_19 (fun hHeld19 => ?_)
        case s_19 => exact r6
        clear hKQ KQ
        try simp only [Act.put, List.setIfInBounds_toArray, List.set_cons_zero, List.set_cons_succ]
        refine tk 20 { dst := some 37, op := .pick (.tmp 33) (.const (.bool true)) (.tmp 36), type := 4, pos := "law.go:95", after := #[{ on := 16, ground := .data }, { on := 19, ground := .data }, { on := 10, ground := .guard }], guard := some (10, true) } _ ?_
        try simp only [Act.put, List.setIfInBounds_toArray, List.set_cons_zero, List.set_cons_succ]
        refine tk 21 { dst := some 38, op := .pick (.tmp 27) (.tmp 37) (.const (.bool false)), type := 4, pos := "law.go:95", after := #[{ on := 10, ground := .data }, { on := 20, ground := .data }], guard := none } _ ?_
        try simp only [Act.put, List.setIfInBounds_toArray, List.set_cons_zero, List.set_cons_succ]
        refine tk 22 { dst := some 39, op := .move (.tmp 38), type := 4, pos := "law.go:95", after := #[{ on := 21, ground := .data }, { on := 19, ground := .chain }], guard := none } _ ?_
        try simp only [Act.put, List.setIfInBounds_toArray, List.set_cons_zero, List.set_cons_succ]
        refine tk 23 { dst := some 40, op := .load 27 (.tmp 3), type := 27, pos := "law.go:95", after := #[{ on := 22, ground := .guard }], guard := some (22, true) } _ ?_
        try simp only [Act.put, List.setIfInBounds_toArray, List.set_cons_zero, List.set_cons_succ]
        refine tk 24 { dst := some 41, op := .load 27 (.tmp 3), type := 27, pos := "law.go:95", after := #[{ on := 22, ground := .guard }], guard := some (22, true) } _ ?_
        try simp only [Act.put, List.setIfInBounds_toArray, List.set_cons_zero, List.set_cons_succ]
        refine wpAnyH_ready (rs := [25]) (by kernel_rfl) (by simp) ?_
        refine AllReadyH.cons (o := { dst := some 42, op := .call { callee := .value (.func 17), args := #[.tmp 41], argTypes := #[27] }, type := 23, pos := "law.go:95", after := #[{ on := 24, ground := .data }, { on := 22, ground := .chain }, { on := 22, ground := .guard }], guard := some (22, true) }) rfl (fun KQ hKQ => ?_) AllReadyH.nil
        go_simp
        refine (CV.out _).mono ?_
        rintro e y7 ⟨rfl, hY7⟩
        have q7 := q6.trans (hY7.mono q6.size)
        have r7 := HS.out _ q7
        go_wp2_with fail
        refine hKQ.out _ _ ?s_25 (fun hHeld25 => ?_)
        case s_25 => exact r7
        clear hKQ KQ
        try simp only [Act.put, List.setIfInBounds_toArray, List.set_cons_zero, List.set_cons_succ]
        refine wpAnyH_ready (rs := [26]) (by kernel_rfl) (by simp) ?_
        refine AllReadyH.cons (o := { dst := some 43, op := .call { callee := .value (.func 23), args := #[.tmp 40, .tmp 42], argTypes := #[27, 23] }, type := 4, pos := "law.go:95", after := #[{ on := 23, ground := .data }, { on := 25, ground := .data }, { on := 25, ground := .chain }, { on := 22, ground := .guard }], guard := some (22, true) }) rfl (fun KQ hKQ => ?_) AllReadyH.nil
        go_simp
        refine (EV.out _).mono ?_
        rintro e y8 ⟨rfl, hY8⟩
        have q8 := q7.trans (hY8.mono q7.size)
        have r8 := HS.out _ q8
        go_wp2_with fail
        refine hKQ.out _ _ ?s_26 (fun hHeld26 => ?_)
        case s_26 => exact r8
        clear hKQ KQ
        try simp only [Act.put, List.setIfInBounds_toArray, List.set_cons_zero, List.set_cons_succ]
        refine tk 27 { dst := some 44, op := .pick (.tmp 39) (.tmp 43) (.const (.bool false)), type := 4, pos := "law.go:95", after := #[{ on := 22, ground := .data }, { on := 26, ground := .data }], guard := none } _ ?_
        try simp only [Act.put, List.setIfInBounds_toArray, List.set_cons_zero, List.set_cons_succ]
        refine tk 28 { dst := some 45, op := .move (.tmp 44), type := 4, pos := "law.go:95", after := #[{ on := 27, ground := .data }, { on := 26, ground := .chain }], guard := none } _ ?_
        try simp only [Act.put, List.setIfInBounds_toArray, List.set_cons_zero, List.set_cons_succ]
        refine tk 29 { dst := some 46, op := .load 27 (.tmp 3), type := 27, pos := "law.go:95", after := #[{ on := 28, ground := .guard }], guard := some (28, true) } _ ?_
        try simp only [Act.put, List.setIfInBounds_toArray, List.set_cons_zero, List.set_cons_succ]
        refine tk 30 { dst := some 47, op := .load 27 (.tmp 3), type := 27, pos := "law.go:95", after := #[{ on := 28, ground := .guard }], guard := some (28, true) } _ ?_
        try simp only [Act.put, List.setIfInBounds_toArray, List.set_cons_zero, List.set_cons_succ]
        refine wpAnyH_ready (rs := [31]) (by kernel_rfl) (by simp) ?_
        refine AllReadyH.cons (o := { dst := some 48, op := .call { callee := .value (.func 17), args := #[.tmp 47], argTypes := #[27] }, type := 23, pos := "law.go:95", after := #[{ on := 30, ground := .data }, { on := 28, ground := .chain }, { on := 28, ground := .guard }], guard := some (28, true) }) rfl (fun KQ hKQ => ?_) AllReadyH.nil
        go_simp
        refine (CV.out _).mono ?_
        rintro e y9 ⟨rfl, hY9⟩
        have q9 := q8.trans (hY9.mono q8.size)
        have r9 := HS.out _ q9
        go_wp2_with fail
        refine hKQ.out _ _ ?s_31 (fun hHeld31 => ?_)
        case s_31 => exact r9
        clear hKQ KQ
        try simp only [Act.put, List.setIfInBounds_toArray, List.set_cons_zero, List.set_cons_succ]
        refine wpAnyH_ready (rs := [32]) (by kernel_rfl) (by simp) ?_
        refine AllReadyH.cons (o := { dst := some 49, op := .call { callee := .value (.func 25), args := #[.tmp 46, .tmp 48], argTypes := #[27, 23] }, type := 4, pos := "law.go:95", after := #[{ on := 29, ground := .data }, { on := 31, ground := .data }, { on := 31, ground := .chain }, { on := 28, ground := .guard }], guard := some (28, true) }) rfl (fun KQ hKQ => ?_) AllReadyH.nil
        go_simp
        refine (CC.out _).mono ?_
        rintro e y10 ⟨rfl, hY10⟩
        have q10 := q9.trans (hY10.mono q9.size)
        have r10 := HS.out _ q10
        go_wp2_with fail
        refine hKQ.out _ _ ?s_32 (fun hHeld32 => ?_)
        case s_32 => exact r10
        clear hKQ KQ
        try simp only [Act.put, List.setIfInBounds_toArray, List.set_cons_zero, List.set_cons_succ]
        refine tk 33 { dst := some 50, op := .pick (.tmp 45) (.tmp 49) (.const (.bool false)), type := 4, pos := "law.go:95", after := #[{ on := 28, ground := .data }, { on := 32, ground := .data }], guard := none } _ ?_
        try simp only [Act.put, List.setIfInBounds_toArray, List.set_cons_zero, List.set_cons_succ]
        refine tk 34 { dst := some 51, op := .move (.tmp 50), type := 4, pos := "law.go:95", after := #[{ on := 33, ground := .data }, { on := 32, ground := .chain }], guard := none } _ ?_
        try simp only [Act.put, List.setIfInBounds_toArray, List.set_cons_zero, List.set_cons_succ]
        refine tk 35 { dst := some 52, op := .load 27 (.tmp 3), type := 27, pos := "law.go:95", after := #[{ on := 34, ground := .guard }], guard := some (34, true) } _ ?_
        try simp only [Act.put, List.setIfInBounds_toArray, List.set_cons_zero, List.set_cons_succ]
        refine wpAnyH_ready (rs := [36]) (by kernel_rfl) (by simp) ?_
        refine AllReadyH.cons (o := { dst := some 53, op := .call { callee := .value (.func 23), args := #[.tmp 52, .const (.int .u16 0)], argTypes := #[27, 23] }, type := 4, pos := "law.go:95", after := #[{ on := 35, ground := .data }, { on := 34, ground := .chain }, { on := 34, ground := .guard }], guard := some (34, true) }) rfl (fun KQ hKQ => ?_) AllReadyH.nil
        go_simp
        refine (EZ.out _).mono ?_
        rintro e y11 ⟨rfl, hY11⟩
        have q11 := q10.trans (hY11.mono q10.size)
        have r11 := HS.out _ q11
        go_wp2_with fail
        refine hKQ.out _ _ ?s_36 (fun hHeld36 => ?_)
        case s_36 => exact r11
        clear hKQ KQ
        try simp only [Act.put, List.setIfInBounds_toArray, List.set_cons_zero, List.set_cons_succ]
        refine tk 37 { dst := some 54, op := .unOp .not 4 (.tmp 53), type := 4, pos := "law.go:95", after := #[{ on := 36, ground := .data }, { on := 34, ground := .guard }], guard := some (34, true) } _ ?_
        try simp only [Act.put, List.setIfInBounds_toArray, List.set_cons_zero, List.set_cons_succ]
        refine tk 38 { dst := some 55, op := .pick (.tmp 51) (.tmp 54) (.const (.bool false)), type := 4, pos := "law.go:95", after := #[{ on := 34, ground := .data }, { on := 37, ground := .data }], guard := none } _ ?_
        try simp only [Act.put, List.setIfInBounds_toArray, List.set_cons_zero, List.set_cons_succ]
        refine tk 39 { dst := some 56, op := .move (.tmp 55), type := 4, pos := "law.go:95", after := #[{ on := 38, ground := .data }, { on := 36, ground := .chain }], guard := none } _ ?_
        try simp only [Act.put, List.setIfInBounds_toArray, List.set_cons_zero, List.set_cons_succ]
        refine tk 40 { dst := some 57, op := .load 27 (.tmp 3), type := 27, pos := "law.go:95", after := #[{ on := 39, ground := .guard }], guard := some (39, true) } _ ?_
        try simp only [Act.put, List.setIfInBounds_toArray, List.set_cons_zero, List.set_cons_succ]
        refine wpAnyH_ready (rs := [41]) (by kernel_rfl) (by simp) ?_
        refine AllReadyH.cons (o := { dst := some 58, op := .call { callee := .value (.func 25), args := #[.tmp 57, .const (.int .u16 0)], argTypes := #[27, 23] }, type := 4, pos := "law.go:95", after := #[{ on := 40, ground := .data }, { on := 39, ground := .chain }, { on := 39, ground := .guard }], guard := some (39, true) }) rfl (fun KQ hKQ => ?_) AllReadyH.nil
        go_simp
        refine (CZ.out _).mono ?_
        rintro e y12 ⟨rfl, hY12⟩
        have q12 := q11.trans (hY12.mono q11.size)
        have r12 := HS.out _ q12
        go_wp2_with fail
        refine hKQ.out _ _ ?s_41 (fun hHeld41 => ?_)
        case s_41 => exact r12
        clear hKQ KQ
        try simp only [Act.put, List.setIfInBounds_toArray, List.set_cons_zero, List.set_cons_succ]
        refine tk 42 { dst := some 59, op := .unOp .not 4 (.tmp 58), type := 4, pos := "law.go:95", after := #[{ on := 41, ground := .data }, { on := 39, ground := .guard }], guard := some (39, true) } _ ?_
        try simp only [Act.put, List.setIfInBounds_toArray, List.set_cons_zero, List.set_cons_succ]
        refine tk 43 { dst := some 60, op := .pick (.tmp 56) (.tmp 59) (.const (.bool false)), type := 4, pos := "law.go:95", after := #[{ on := 39, ground := .data }, { on := 42, ground := .data }], guard := none } _ ?_
        try simp only [Act.put, List.setIfInBounds_toArray, List.set_cons_zero, List.set_cons_succ]
        refine tk 44 { dst := some 61, op := .move (.tmp 60), type := 4, pos := "law.go:95", after := #[{ on := 43, ground := .data }, { on := 41, ground := .chain }], guard := none } _ ?_
        try simp only [Act.put, List.setIfInBounds_toArray, List.set_cons_zero, List.set_cons_succ]
        refine tk 45 { dst := some 62, op := .load 27 (.tmp 3), type := 27, pos := "law.go:95", after := #[{ on := 44, ground := .guard }], guard := some (44, true) } _ ?_
        try simp only [Act.put, List.setIfInBounds_toArray, List.set_cons_zero, List.set_cons_succ]
        refine wpAnyH_ready (rs := [46]) (by kernel_rfl) (by simp) ?_
        refine AllReadyH.cons (o := { dst := some 63, op := .call { callee := .value (.func 15), args := #[.tmp 62], argTypes := #[27] }, type := 23, pos := "law.go:95", after := #[{ on := 45, ground := .data }, { on := 44, ground := .chain }, { on := 44, ground := .guard }], guard := some (44, true) }) rfl (fun KQ hKQ => ?_) AllReadyH.nil
        go_simp
        refine (CM.out _).mono ?_
        rintro e y13 ⟨rfl, hY13⟩
        have q13 := q12.trans (hY13.mono q12.size)
        have r13 := HS.out _ q13
        go_wp2_with fail
        refine hKQ.out _ _ ?s_46 (fun hHeld46 => ?_)
        case s_46 => exact r13
        clear hKQ KQ
        try simp only [Act.put, List.setIfInBounds_toArray, List.set_cons_zero, List.set_cons_succ]
        refine wpAnyH_ready (rs := [47]) (by kernel_rfl) (by simp) ?_
        refine AllReadyH.cons (o := { dst := some 64, op := .call { callee := .value (.func 33), args := #[.tmp 63], argTypes := #[23] }, type := 3, pos := "law.go:95", after := #[{ on := 46, ground := .data }, { on := 46, ground := .chain }, { on := 44, ground := .guard }], guard := some (44, true) }) rfl (fun KQ hKQ => ?_) AllReadyH.nil
        go_simp
        refine (CN.out _).mono ?_
        rintro e y14 ⟨rfl, hY14⟩
        have q14 := q13.trans (hY14.mono q13.size)
        have r14 := HS.out _ q14
        go_wp2_with fail
        refine hKQ.out _ _ ?s_47 (fun hHeld47 => ?_)
        case s_47 => exact r14
        clear hKQ KQ
        try simp only [Act.put, List.setIfInBounds_toArray, List.set_cons_zero, List.set_cons_succ]
        refine tk 48 { dst := some 65, op := .binOp .geq 3 (.tmp 64) (.const (.int .i64 1)) 3, type := 4, pos := "law.go:95", after := #[{ on := 47, ground := .data }, { on := 44, ground := .guard }], guard := some (44, true) } _ ?_
        try simp only [Act.put, List.setIfInBounds_toArray, List.set_cons_zero, List.set_cons_succ]
        refine tk 49 { dst := some 66, op := .pick (.tmp 61) (.tmp 65) (.const (.bool false)), type := 4, pos := "law.go:95", after := #[{ on := 44, ground := .data }, { on := 48, ground := .data }], guard := none } _ ?_
        try simp only [Act.put, List.setIfInBounds_toArray, List.set_cons_zero, List.set_cons_succ]
        refine tk 50 { dst := some 6, op := .assign (.tmp 66), type := 4, pos := "law.go:95", after := #[{ on := 49, ground := .data }, { on := 47, ground := .chain }, { on := 0, ground := .phase }, { on := 1, ground := .phase }, { on := 2, ground := .phase }, { on := 3, ground := .phase }, { on := 4, ground := .phase }, { on := 5, ground := .phase }, { on := 6, ground := .phase }, { on := 7, ground := .phase }, { on := 8, ground := .phase }, { on := 9, ground := .phase }, { on := 10, ground := .phase }, { on := 11, ground := .phase }, { on := 12, ground := .phase }, { on := 13, ground := .phase }, { on := 14, ground := .phase }, { on := 15, ground := .phase }, { on := 16, ground := .phase }, { on := 17, ground := .phase }, { on := 18, ground := .phase }, { on := 19, ground := .phase }, { on := 20, ground := .phase }, { on := 21, ground := .phase }, { on := 22, ground := .phase }, { on := 23, ground := .phase }, { on := 24, ground := .phase }, { on := 25, ground := .phase }, { on := 26, ground := .phase }, { on := 27, ground := .phase }, { on := 28, ground := .phase }, { on := 29, ground := .phase }, { on := 30, ground := .phase }, { on := 31, ground := .phase }, { on := 32, ground := .phase }, { on := 33, ground := .phase }, { on := 34, ground := .phase }, { on := 35, ground := .phase }, { on := 36, ground := .phase }, { on := 37, ground := .phase }, { on := 38, ground := .phase }, { on := 39, ground := .phase }, { on := 40, ground := .phase }, { on := 41, ground := .phase }, { on := 42, ground := .phase }, { on := 43, ground := .phase }, { on := 44, ground := .phase }, { on := 45, ground := .phase }, { on := 46, ground := .phase }, { on := 47, ground := .phase }, { on := 48, ground := .phase }, { on := 49, ground := .phase }], guard := none } _ ?_
        try simp only [Act.put, List.setIfInBounds_toArray, List.set_cons_zero, List.set_cons_succ]
        refine wpAnyH_done (by kernel_rfl) ?_ _
        go_wp2_with fail
        go_ret
        exact ⟨ref9.ret_bool (by simp), HB.out.trans (q14.mono HB.out.size)⟩
    · obtain rfl : e2 = true := HE.out rfl
      cases c1
      · have q3 := q2.drew
        refine wp_region_held_drew (S := fun wq => (wq.cell? ⟨w.heap.size, 0, none⟩ = some (.int .u16 (av : Int)) ∧ wq.cell? ⟨w.heap.size, 1, none⟩ = some (.int .u16 (aw : Int)) ∧ wq.cell? ⟨w.heap.size, 2, none⟩ = some (.int .u16 (al : Int)) ∧ wq.cell? ⟨w.heap.size, 3, none⟩ = some (.int .i64 ae) ∧ wq.cell? ⟨w.heap.size, 4, none⟩ = some (.int .i64 ak) ∧ wq.cell? ⟨w.heap.size, 5, none⟩ = some (.int .u16 (bv : Int)) ∧ wq.cell? ⟨w.heap.size, 6, none⟩ = some (.int .u16 (bw : Int)) ∧ wq.cell? ⟨w.heap.size, 7, none⟩ = some (.int .u16 (bl : Int)) ∧ wq.cell? ⟨w.heap.size, 8, none⟩ = some (.int .i64 be) ∧ wq.cell? ⟨w.heap.size, 9, none⟩ = some (.int .i64 bk) ∧ wq.cell? ⟨w.heap.size, 10, none⟩ = some (.bool t))) (by kernel_rfl) ?s_more10 (fun hHeld => ?_)
        case s_more10 => exact HS.out _ q3
        refine tk 0 { dst := some 17, op := .load 27 (.tmp 3), type := 27, pos := "law.go:95", after := #[], guard := none } _ ?_
        try simp only [Act.put, List.setIfInBounds_toArray, List.set_cons_zero, List.set_cons_succ]
        refine tk 1 { dst := some 18, op := .move (.tmp 1), type := 23, pos := "law.go:95", after := #[], guard := none } _ ?_
        try simp only [Act.put, List.setIfInBounds_toArray, List.set_cons_zero, List.set_cons_succ]
        refine tk 2 { dst := some 19, op := .binOp .and 23 (.tmp 18) (.const (.int .u16 1022)) 23, type := 23, pos := "law.go:95", after := #[{ on := 1, ground := .data }], guard := none } _ ?_
        try simp only [Act.put, List.setIfInBounds_toArray, List.set_cons_zero, List.set_cons_succ]
        refine wpAnyH_ready (rs := [3]) (by kernel_rfl) (by simp) ?_
        refine AllReadyH.cons (o := { dst := some 20, op := .call { callee := .value (.func 23), args := #[.tmp 17, .tmp 19], argTypes := #[27, 23] }, type := 4, pos := "law.go:95", after := #[{ on := 0, ground := .data }, { on := 2, ground := .data }], guard := none }) rfl (fun KQ hKQ => ?_) AllReadyH.nil
        go_simp
        refine (E1.out _).mono ?_
        rintro e y4 ⟨rfl, hY4⟩
        have q4 := q3.trans (hY4.mono q3.size)
        have r4 := HS.out _ q4
        go_wp2_with fail
        refine hKQ.out _ _ ?s_3 (fun hHeld3 => ?_)
        case s_3 => exact r4
        clear hKQ KQ
        try simp only [Act.put, List.setIfInBounds_toArray, List.set_cons_zero, List.set_cons_succ]
        refine tk 4 { dst := some 21, op := .unOp .not 4 (.tmp 20), type := 4, pos := "law.go:95", after := #[{ on := 3, ground := .data }], guard := none } _ ?_
        try simp only [Act.put, List.setIfInBounds_toArray, List.set_cons_zero, List.set_cons_succ]
        refine tk 5 { dst := some 22, op := .move (.tmp 21), type := 4, pos := "law.go:95", after := #[{ on := 4, ground := .data }, { on := 3, ground := .chain }], guard := none } _ ?_
        try simp only [Act.put, List.setIfInBounds_toArray, List.set_cons_zero, List.set_cons_succ]
        refine tk 6 { dst := some 23, op := .load 27 (.tmp 3), type := 27, pos := "law.go:95", after := #[{ on := 5, ground := .guard }], guard := some (5, false) } _ ?_
        try simp only [Act.put, List.setIfInBounds_toArray, List.set_cons_zero, List.set_cons_succ]
        refine tk 7 { dst := some 24, op := .move (.tmp 7), type := 23, pos := "law.go:95", after := #[{ on := 5, ground := .guard }], guard := some (5, false) } _ ?_
        try simp only [Act.put, List.setIfInBounds_toArray, List.set_cons_zero, List.set_cons_succ]
        refine wpAnyH_ready (rs := [8]) (by kernel_rfl) (by simp) ?_
        refine AllReadyH.cons (o := { dst := some 25, op := .call { callee := .value (.func 23), args := #[.tmp 23, .tmp 24], argTypes := #[27, 23] }, type := 4, pos := "law.go:95", after := #[{ on := 6, ground := .data }, { on := 7, ground := .data }, { on := 5, ground := .chain }, { on := 5, ground := .guard }], guard := some (5, false) }) rfl (fun KQ hKQ => ?_) AllReadyH.nil
        go_simp
        refine (E2.out _).mono ?_
        rintro e y5 ⟨rfl, hY5⟩
        have q5 := q4.trans (hY5.mono q4.size)
        have r5 := HS.out _ q5
        go_wp2_with fail
        refine hKQ.out _ _ ?s_8 (fun hHeld8 => ?_)
        case s_8 => exact r5
        clear hKQ KQ
        try simp only [Act.put, List.setIfInBounds_toArray, List.set_cons_zero, List.set_cons_succ]
        refine tk 9 { dst := some 26, op := .pick (.tmp 22) (.const (.bool true)) (.tmp 25), type := 4, pos := "law.go:95", after := #[{ on := 5, ground := .data }, { on := 8, ground := .data }], guard := none } _ ?_
        try simp only [Act.put, List.setIfInBounds_toArray, List.set_cons_zero, List.set_cons_succ]
        refine tk 10 { dst := some 27, op := .move (.tmp 26), type := 4, pos := "law.go:95", after := #[{ on := 9, ground := .data }, { on := 8, ground := .chain }], guard := none } _ ?_
        try simp only [Act.put, List.setIfInBounds_toArray, List.set_cons_zero, List.set_cons_succ]
        refine tk 11 { dst := some 28, op := .load 27 (.tmp 3), type := 27, pos := "law.go:95", after := #[{ on := 10, ground := .guard }], guard := some (10, true) } _ ?_
        try simp only [Act.put, List.setIfInBounds_toArray, List.set_cons_zero, List.set_cons_succ]
        refine tk 12 { dst := some 29, op := .move (.tmp 1), type := 23, pos := "law.go:95", after := #[{ on := 10, ground := .guard }], guard := some (10, true) } _ ?_
        try simp only [Act.put, List.setIfInBounds_toArray, List.set_cons_zero, List.set_cons_succ]
        refine tk 13 { dst := some 30, op := .binOp .and 23 (.tmp 29) (.const (.int .u16 1022)) 23, type := 23, pos := "law.go:95", after := #[{ on := 12, ground := .data }, { on := 10, ground := .guard }], guard := some (10, true) } _ ?_
        try simp only [Act.put, List.setIfInBounds_toArray, List.set_cons_zero, List.set_cons_succ]
        refine wpAnyH_ready (rs := [14]) (by kernel_rfl) (by simp) ?_
        refine AllReadyH.cons (o := { dst := some 31, op := .call { callee := .value (.func 25), args := #[.tmp 28, .tmp 30], argTypes := #[27, 23] }, type := 4, pos := "law.go:95", after := #[{ on := 11, ground := .data }, { on := 13, ground := .data }, { on := 10, ground := .chain }, { on := 10, ground := .guard }], guard := some (10, true) }) rfl (fun KQ hKQ => ?_) AllReadyH.nil
        go_simp
        refine (C1.out _).mono ?_
        rintro e y6 ⟨rfl, hY6⟩
        have q6 := q5.trans (hY6.mono q5.size)
        have r6 := HS.out _ q6
        go_wp2_with fail
        refine hKQ.out _ _ ?s_14 (fun hHeld14 => ?_)
        case s_14 => exact r6
        clear hKQ KQ
        try simp only [Act.put, List.setIfInBounds_toArray, List.set_cons_zero, List.set_cons_succ]
        refine tk 15 { dst := some 32, op := .unOp .not 4 (.tmp 31), type := 4, pos := "law.go:95", after := #[{ on := 14, ground := .data }, { on := 10, ground := .guard }], guard := some (10, true) } _ ?_
        try simp only [Act.put, List.setIfInBounds_toArray, List.set_cons_zero, List.set_cons_succ]
        refine tk 16 { dst := some 33, op := .move (.tmp 32), type := 4, pos := "law.go:95", after := #[{ on := 15, ground := .data }, { on := 14, ground := .chain }, { on := 10, ground := .guard }], guard := some (10, true) } _ ?_
        try simp only [Act.put, List.setIfInBounds_toArray, List.set_cons_zero, List.set_cons_succ]
        refine tu 17 { dst := some 34, op := .load 27 (.tmp 3), type := 27, pos := "law.go:95", after := #[{ on := 16, ground := .guard }], guard := some (16, false) } ?_
        try simp only [Act.put, List.setIfInBounds_toArray, List.set_cons_zero, List.set_cons_succ]
        refine tu 18 { dst := some 35, op := .move (.tmp 7), type := 23, pos := "law.go:95", after := #[{ on := 16, ground := .guard }], guard := some (16, false) } ?_
        try simp only [Act.put, List.setIfInBounds_toArray, List.set_cons_zero, List.set_cons_succ]
        refine tu 19 { dst := some 36, op := .call { callee := .value (.func 25), args := #[.tmp 34, .tmp 35], argTypes := #[27, 23] }, type := 4, pos := "law.go:95", after := #[{ on := 17, ground := .data }, { on := 18, ground := .data }, { on := 16, ground := .chain }, { on := 16, ground := .guard }], guard := some (16, false) } ?_
        try simp only [Act.put, List.setIfInBounds_toArray, List.set_cons_zero, List.set_cons_succ]
        refine tk 20 { dst := some 37, op := .pick (.tmp 33) (.const (.bool true)) (.tmp 36), type := 4, pos := "law.go:95", after := #[{ on := 16, ground := .data }, { on := 19, ground := .data }, { on := 10, ground := .guard }], guard := some (10, true) } _ ?_
        try simp only [Act.put, List.setIfInBounds_toArray, List.set_cons_zero, List.set_cons_succ]
        refine tk 21 { dst := some 38, op := .pick (.tmp 27) (.tmp 37) (.const (.bool false)), type := 4, pos := "law.go:95", after := #[{ on := 10, ground := .data }, { on := 20, ground := .data }], guard := none } _ ?_
        try simp only [Act.put, List.setIfInBounds_toArray, List.set_cons_zero, List.set_cons_succ]
        refine tk 22 { dst := some 39, op := .move (.tmp 38), type := 4, pos := "law.go:95", after := #[{ on := 21, ground := .data }, { on := 19, ground := .chain }], guard := none } _ ?_
        try simp only [Act.put, List.setIfInBounds_toArray, List.set_cons_zero, List.set_cons_succ]
        refine tk 23 { dst := some 40, op := .load 27 (.tmp 3), type := 27, pos := "law.go:95", after := #[{ on := 22, ground := .guard }], guard := some (22, true) } _ ?_
        try simp only [Act.put, List.setIfInBounds_toArray, List.set_cons_zero, List.set_cons_succ]
        refine tk 24 { dst := some 41, op := .load 27 (.tmp 3), type := 27, pos := "law.go:95", after := #[{ on := 22, ground := .guard }], guard := some (22, true) } _ ?_
        try simp only [Act.put, List.setIfInBounds_toArray, List.set_cons_zero, List.set_cons_succ]
        refine wpAnyH_ready (rs := [25]) (by kernel_rfl) (by simp) ?_
        refine AllReadyH.cons (o := { dst := some 42, op := .call { callee := .value (.func 17), args := #[.tmp 41], argTypes := #[27] }, type := 23, pos := "law.go:95", after := #[{ on := 24, ground := .data }, { on := 22, ground := .chain }, { on := 22, ground := .guard }], guard := some (22, true) }) rfl (fun KQ hKQ => ?_) AllReadyH.nil
        go_simp
        refine (CV.out _).mono ?_
        rintro e y7 ⟨rfl, hY7⟩
        have q7 := q6.trans (hY7.mono q6.size)
        have r7 := HS.out _ q7
        go_wp2_with fail
        refine hKQ.out _ _ ?s_25 (fun hHeld25 => ?_)
        case s_25 => exact r7
        clear hKQ KQ
        try simp only [Act.put, List.setIfInBounds_toArray, List.set_cons_zero, List.set_cons_succ]
        refine wpAnyH_ready (rs := [26]) (by kernel_rfl) (by simp) ?_
        refine AllReadyH.cons (o := { dst := some 43, op := .call { callee := .value (.func 23), args := #[.tmp 40, .tmp 42], argTypes := #[27, 23] }, type := 4, pos := "law.go:95", after := #[{ on := 23, ground := .data }, { on := 25, ground := .data }, { on := 25, ground := .chain }, { on := 22, ground := .guard }], guard := some (22, true) }) rfl (fun KQ hKQ => ?_) AllReadyH.nil
        go_simp
        refine (EV.out _).mono ?_
        rintro e y8 ⟨rfl, hY8⟩
        have q8 := q7.trans (hY8.mono q7.size)
        have r8 := HS.out _ q8
        go_wp2_with fail
        refine hKQ.out _ _ ?s_26 (fun hHeld26 => ?_)
        case s_26 => exact r8
        clear hKQ KQ
        try simp only [Act.put, List.setIfInBounds_toArray, List.set_cons_zero, List.set_cons_succ]
        refine tk 27 { dst := some 44, op := .pick (.tmp 39) (.tmp 43) (.const (.bool false)), type := 4, pos := "law.go:95", after := #[{ on := 22, ground := .data }, { on := 26, ground := .data }], guard := none } _ ?_
        try simp only [Act.put, List.setIfInBounds_toArray, List.set_cons_zero, List.set_cons_succ]
        refine tk 28 { dst := some 45, op := .move (.tmp 44), type := 4, pos := "law.go:95", after := #[{ on := 27, ground := .data }, { on := 26, ground := .chain }], guard := none } _ ?_
        try simp only [Act.put, List.setIfInBounds_toArray, List.set_cons_zero, List.set_cons_succ]
        refine tk 29 { dst := some 46, op := .load 27 (.tmp 3), type := 27, pos := "law.go:95", after := #[{ on := 28, ground := .guard }], guard := some (28, true) } _ ?_
        try simp only [Act.put, List.setIfInBounds_toArray, List.set_cons_zero, List.set_cons_succ]
        refine tk 30 { dst := some 47, op := .load 27 (.tmp 3), type := 27, pos := "law.go:95", after := #[{ on := 28, ground := .guard }], guard := some (28, true) } _ ?_
        try simp only [Act.put, List.setIfInBounds_toArray, List.set_cons_zero, List.set_cons_succ]
        refine wpAnyH_ready (rs := [31]) (by kernel_rfl) (by simp) ?_
        refine AllReadyH.cons (o := { dst := some 48, op := .call { callee := .value (.func 17), args := #[.tmp 47], argTypes := #[27] }, type := 23, pos := "law.go:95", after := #[{ on := 30, ground := .data }, { on := 28, ground := .chain }, { on := 28, ground := .guard }], guard := some (28, true) }) rfl (fun KQ hKQ => ?_) AllReadyH.nil
        go_simp
        refine (CV.out _).mono ?_
        rintro e y9 ⟨rfl, hY9⟩
        have q9 := q8.trans (hY9.mono q8.size)
        have r9 := HS.out _ q9
        go_wp2_with fail
        refine hKQ.out _ _ ?s_31 (fun hHeld31 => ?_)
        case s_31 => exact r9
        clear hKQ KQ
        try simp only [Act.put, List.setIfInBounds_toArray, List.set_cons_zero, List.set_cons_succ]
        refine wpAnyH_ready (rs := [32]) (by kernel_rfl) (by simp) ?_
        refine AllReadyH.cons (o := { dst := some 49, op := .call { callee := .value (.func 25), args := #[.tmp 46, .tmp 48], argTypes := #[27, 23] }, type := 4, pos := "law.go:95", after := #[{ on := 29, ground := .data }, { on := 31, ground := .data }, { on := 31, ground := .chain }, { on := 28, ground := .guard }], guard := some (28, true) }) rfl (fun KQ hKQ => ?_) AllReadyH.nil
        go_simp
        refine (CC.out _).mono ?_
        rintro e y10 ⟨rfl, hY10⟩
        have q10 := q9.trans (hY10.mono q9.size)
        have r10 := HS.out _ q10
        go_wp2_with fail
        refine hKQ.out _ _ ?s_32 (fun hHeld32 => ?_)
        case s_32 => exact r10
        clear hKQ KQ
        try simp only [Act.put, List.setIfInBounds_toArray, List.set_cons_zero, List.set_cons_succ]
        refine tk 33 { dst := some 50, op := .pick (.tmp 45) (.tmp 49) (.const (.bool false)), type := 4, pos := "law.go:95", after := #[{ on := 28, ground := .data }, { on := 32, ground := .data }], guard := none } _ ?_
        try simp only [Act.put, List.setIfInBounds_toArray, List.set_cons_zero, List.set_cons_succ]
        refine tk 34 { dst := some 51, op := .move (.tmp 50), type := 4, pos := "law.go:95", after := #[{ on := 33, ground := .data }, { on := 32, ground := .chain }], guard := none } _ ?_
        try simp only [Act.put, List.setIfInBounds_toArray, List.set_cons_zero, List.set_cons_succ]
        refine tk 35 { dst := some 52, op := .load 27 (.tmp 3), type := 27, pos := "law.go:95", after := #[{ on := 34, ground := .guard }], guard := some (34, true) } _ ?_
        try simp only [Act.put, List.setIfInBounds_toArray, List.set_cons_zero, List.set_cons_succ]
        refine wpAnyH_ready (rs := [36]) (by kernel_rfl) (by simp) ?_
        refine AllReadyH.cons (o := { dst := some 53, op := .call { callee := .value (.func 23), args := #[.tmp 52, .const (.int .u16 0)], argTypes := #[27, 23] }, type := 4, pos := "law.go:95", after := #[{ on := 35, ground := .data }, { on := 34, ground := .chain }, { on := 34, ground := .guard }], guard := some (34, true) }) rfl (fun KQ hKQ => ?_) AllReadyH.nil
        go_simp
        refine (EZ.out _).mono ?_
        rintro e y11 ⟨rfl, hY11⟩
        have q11 := q10.trans (hY11.mono q10.size)
        have r11 := HS.out _ q11
        go_wp2_with fail
        refine hKQ.out _ _ ?s_36 (fun hHeld36 => ?_)
        case s_36 => exact r11
        clear hKQ KQ
        try simp only [Act.put, List.setIfInBounds_toArray, List.set_cons_zero, List.set_cons_succ]
        refine tk 37 { dst := some 54, op := .unOp .not 4 (.tmp 53), type := 4, pos := "law.go:95", after := #[{ on := 36, ground := .data }, { on := 34, ground := .guard }], guard := some (34, true) } _ ?_
        try simp only [Act.put, List.setIfInBounds_toArray, List.set_cons_zero, List.set_cons_succ]
        refine tk 38 { dst := some 55, op := .pick (.tmp 51) (.tmp 54) (.const (.bool false)), type := 4, pos := "law.go:95", after := #[{ on := 34, ground := .data }, { on := 37, ground := .data }], guard := none } _ ?_
        try simp only [Act.put, List.setIfInBounds_toArray, List.set_cons_zero, List.set_cons_succ]
        refine tk 39 { dst := some 56, op := .move (.tmp 55), type := 4, pos := "law.go:95", after := #[{ on := 38, ground := .data }, { on := 36, ground := .chain }], guard := none } _ ?_
        try simp only [Act.put, List.setIfInBounds_toArray, List.set_cons_zero, List.set_cons_succ]
        refine tk 40 { dst := some 57, op := .load 27 (.tmp 3), type := 27, pos := "law.go:95", after := #[{ on := 39, ground := .guard }], guard := some (39, true) } _ ?_
        try simp only [Act.put, List.setIfInBounds_toArray, List.set_cons_zero, List.set_cons_succ]
        refine wpAnyH_ready (rs := [41]) (by kernel_rfl) (by simp) ?_
        refine AllReadyH.cons (o := { dst := some 58, op := .call { callee := .value (.func 25), args := #[.tmp 57, .const (.int .u16 0)], argTypes := #[27, 23] }, type := 4, pos := "law.go:95", after := #[{ on := 40, ground := .data }, { on := 39, ground := .chain }, { on := 39, ground := .guard }], guard := some (39, true) }) rfl (fun KQ hKQ => ?_) AllReadyH.nil
        go_simp
        refine (CZ.out _).mono ?_
        rintro e y12 ⟨rfl, hY12⟩
        have q12 := q11.trans (hY12.mono q11.size)
        have r12 := HS.out _ q12
        go_wp2_with fail
        refine hKQ.out _ _ ?s_41 (fun hHeld41 => ?_)
        case s_41 => exact r12
        clear hKQ KQ
        try simp only [Act.put, List.setIfInBounds_toArray, List.set_cons_zero, List.set_cons_succ]
        refine tk 42 { dst := some 59, op := .unOp .not 4 (.tmp 58), type := 4, pos := "law.go:95", after := #[{ on := 41, ground := .data }, { on := 39, ground := .guard }], guard := some (39, true) } _ ?_
        try simp only [Act.put, List.setIfInBounds_toArray, List.set_cons_zero, List.set_cons_succ]
        refine tk 43 { dst := some 60, op := .pick (.tmp 56) (.tmp 59) (.const (.bool false)), type := 4, pos := "law.go:95", after := #[{ on := 39, ground := .data }, { on := 42, ground := .data }], guard := none } _ ?_
        try simp only [Act.put, List.setIfInBounds_toArray, List.set_cons_zero, List.set_cons_succ]
        refine tk 44 { dst := some 61, op := .move (.tmp 60), type := 4, pos := "law.go:95", after := #[{ on := 43, ground := .data }, { on := 41, ground := .chain }], guard := none } _ ?_
        try simp only [Act.put, List.setIfInBounds_toArray, List.set_cons_zero, List.set_cons_succ]
        refine tk 45 { dst := some 62, op := .load 27 (.tmp 3), type := 27, pos := "law.go:95", after := #[{ on := 44, ground := .guard }], guard := some (44, true) } _ ?_
        try simp only [Act.put, List.setIfInBounds_toArray, List.set_cons_zero, List.set_cons_succ]
        refine wpAnyH_ready (rs := [46]) (by kernel_rfl) (by simp) ?_
        refine AllReadyH.cons (o := { dst := some 63, op := .call { callee := .value (.func 15), args := #[.tmp 62], argTypes := #[27] }, type := 23, pos := "law.go:95", after := #[{ on := 45, ground := .data }, { on := 44, ground := .chain }, { on := 44, ground := .guard }], guard := some (44, true) }) rfl (fun KQ hKQ => ?_) AllReadyH.nil
        go_simp
        refine (CM.out _).mono ?_
        rintro e y13 ⟨rfl, hY13⟩
        have q13 := q12.trans (hY13.mono q12.size)
        have r13 := HS.out _ q13
        go_wp2_with fail
        refine hKQ.out _ _ ?s_46 (fun hHeld46 => ?_)
        case s_46 => exact r13
        clear hKQ KQ
        try simp only [Act.put, List.setIfInBounds_toArray, List.set_cons_zero, List.set_cons_succ]
        refine wpAnyH_ready (rs := [47]) (by kernel_rfl) (by simp) ?_
        refine AllReadyH.cons (o := { dst := some 64, op := .call { callee := .value (.func 33), args := #[.tmp 63], argTypes := #[23] }, type := 3, pos := "law.go:95", after := #[{ on := 46, ground := .data }, { on := 46, ground := .chain }, { on := 44, ground := .guard }], guard := some (44, true) }) rfl (fun KQ hKQ => ?_) AllReadyH.nil
        go_simp
        refine (CN.out _).mono ?_
        rintro e y14 ⟨rfl, hY14⟩
        have q14 := q13.trans (hY14.mono q13.size)
        have r14 := HS.out _ q14
        go_wp2_with fail
        refine hKQ.out _ _ ?s_47 (fun hHeld47 => ?_)
        case s_47 => exact r14
        clear hKQ KQ
        try simp only [Act.put, List.setIfInBounds_toArray, List.set_cons_zero, List.set_cons_succ]
        refine tk 48 { dst := some 65, op := .binOp .geq 3 (.tmp 64) (.const (.int .i64 1)) 3, type := 4, pos := "law.go:95", after := #[{ on := 47, ground := .data }, { on := 44, ground := .guard }], guard := some (44, true) } _ ?_
        try simp only [Act.put, List.setIfInBounds_toArray, List.set_cons_zero, List.set_cons_succ]
        refine tk 49 { dst := some 66, op := .pick (.tmp 61) (.tmp 65) (.const (.bool false)), type := 4, pos := "law.go:95", after := #[{ on := 44, ground := .data }, { on := 48, ground := .data }], guard := none } _ ?_
        try simp only [Act.put, List.setIfInBounds_toArray, List.set_cons_zero, List.set_cons_succ]
        refine tk 50 { dst := some 6, op := .assign (.tmp 66), type := 4, pos := "law.go:95", after := #[{ on := 49, ground := .data }, { on := 47, ground := .chain }, { on := 0, ground := .phase }, { on := 1, ground := .phase }, { on := 2, ground := .phase }, { on := 3, ground := .phase }, { on := 4, ground := .phase }, { on := 5, ground := .phase }, { on := 6, ground := .phase }, { on := 7, ground := .phase }, { on := 8, ground := .phase }, { on := 9, ground := .phase }, { on := 10, ground := .phase }, { on := 11, ground := .phase }, { on := 12, ground := .phase }, { on := 13, ground := .phase }, { on := 14, ground := .phase }, { on := 15, ground := .phase }, { on := 16, ground := .phase }, { on := 17, ground := .phase }, { on := 18, ground := .phase }, { on := 19, ground := .phase }, { on := 20, ground := .phase }, { on := 21, ground := .phase }, { on := 22, ground := .phase }, { on := 23, ground := .phase }, { on := 24, ground := .phase }, { on := 25, ground := .phase }, { on := 26, ground := .phase }, { on := 27, ground := .phase }, { on := 28, ground := .phase }, { on := 29, ground := .phase }, { on := 30, ground := .phase }, { on := 31, ground := .phase }, { on := 32, ground := .phase }, { on := 33, ground := .phase }, { on := 34, ground := .phase }, { on := 35, ground := .phase }, { on := 36, ground := .phase }, { on := 37, ground := .phase }, { on := 38, ground := .phase }, { on := 39, ground := .phase }, { on := 40, ground := .phase }, { on := 41, ground := .phase }, { on := 42, ground := .phase }, { on := 43, ground := .phase }, { on := 44, ground := .phase }, { on := 45, ground := .phase }, { on := 46, ground := .phase }, { on := 47, ground := .phase }, { on := 48, ground := .phase }, { on := 49, ground := .phase }], guard := none } _ ?_
        try simp only [Act.put, List.setIfInBounds_toArray, List.set_cons_zero, List.set_cons_succ]
        refine wpAnyH_done (by kernel_rfl) ?_ _
        go_wp2_with fail
        go_ret
        exact ⟨ref9.ret_bool (by simp), HB.out.trans (q14.mono HB.out.size)⟩
      · obtain rfl : c2 = true := HC.out rfl
        have q3 := q2.drew
        refine wp_region_held_drew (S := fun wq => (wq.cell? ⟨w.heap.size, 0, none⟩ = some (.int .u16 (av : Int)) ∧ wq.cell? ⟨w.heap.size, 1, none⟩ = some (.int .u16 (aw : Int)) ∧ wq.cell? ⟨w.heap.size, 2, none⟩ = some (.int .u16 (al : Int)) ∧ wq.cell? ⟨w.heap.size, 3, none⟩ = some (.int .i64 ae) ∧ wq.cell? ⟨w.heap.size, 4, none⟩ = some (.int .i64 ak) ∧ wq.cell? ⟨w.heap.size, 5, none⟩ = some (.int .u16 (bv : Int)) ∧ wq.cell? ⟨w.heap.size, 6, none⟩ = some (.int .u16 (bw : Int)) ∧ wq.cell? ⟨w.heap.size, 7, none⟩ = some (.int .u16 (bl : Int)) ∧ wq.cell? ⟨w.heap.size, 8, none⟩ = some (.int .i64 be) ∧ wq.cell? ⟨w.heap.size, 9, none⟩ = some (.int .i64 bk) ∧ wq.cell? ⟨w.heap.size, 10, none⟩ = some (.bool t))) (by kernel_rfl) ?s_more11 (fun hHeld => ?_)
        case s_more11 => exact HS.out _ q3
        refine tk 0 { dst := some 17, op := .load 27 (.tmp 3), type := 27, pos := "law.go:95", after := #[], guard := none } _ ?_
        try simp only [Act.put, List.setIfInBounds_toArray, List.set_cons_zero, List.set_cons_succ]
        refine tk 1 { dst := some 18, op := .move (.tmp 1), type := 23, pos := "law.go:95", after := #[], guard := none } _ ?_
        try simp only [Act.put, List.setIfInBounds_toArray, List.set_cons_zero, List.set_cons_succ]
        refine tk 2 { dst := some 19, op := .binOp .and 23 (.tmp 18) (.const (.int .u16 1022)) 23, type := 23, pos := "law.go:95", after := #[{ on := 1, ground := .data }], guard := none } _ ?_
        try simp only [Act.put, List.setIfInBounds_toArray, List.set_cons_zero, List.set_cons_succ]
        refine wpAnyH_ready (rs := [3]) (by kernel_rfl) (by simp) ?_
        refine AllReadyH.cons (o := { dst := some 20, op := .call { callee := .value (.func 23), args := #[.tmp 17, .tmp 19], argTypes := #[27, 23] }, type := 4, pos := "law.go:95", after := #[{ on := 0, ground := .data }, { on := 2, ground := .data }], guard := none }) rfl (fun KQ hKQ => ?_) AllReadyH.nil
        go_simp
        refine (E1.out _).mono ?_
        rintro e y4 ⟨rfl, hY4⟩
        have q4 := q3.trans (hY4.mono q3.size)
        have r4 := HS.out _ q4
        go_wp2_with fail
        refine hKQ.out _ _ ?s_3 (fun hHeld3 => ?_)
        case s_3 => exact r4
        clear hKQ KQ
        try simp only [Act.put, List.setIfInBounds_toArray, List.set_cons_zero, List.set_cons_succ]
        refine tk 4 { dst := some 21, op := .unOp .not 4 (.tmp 20), type := 4, pos := "law.go:95", after := #[{ on := 3, ground := .data }], guard := none } _ ?_
        try simp only [Act.put, List.setIfInBounds_toArray, List.set_cons_zero, List.set_cons_succ]
        refine tk 5 { dst := some 22, op := .move (.tmp 21), type := 4, pos := "law.go:95", after := #[{ on := 4, ground := .data }, { on := 3, ground := .chain }], guard := none } _ ?_
        try simp only [Act.put, List.setIfInBounds_toArray, List.set_cons_zero, List.set_cons_succ]
        refine tk 6 { dst := some 23, op := .load 27 (.tmp 3), type := 27, pos := "law.go:95", after := #[{ on := 5, ground := .guard }], guard := some (5, false) } _ ?_
        try simp only [Act.put, List.setIfInBounds_toArray, List.set_cons_zero, List.set_cons_succ]
        refine tk 7 { dst := some 24, op := .move (.tmp 7), type := 23, pos := "law.go:95", after := #[{ on := 5, ground := .guard }], guard := some (5, false) } _ ?_
        try simp only [Act.put, List.setIfInBounds_toArray, List.set_cons_zero, List.set_cons_succ]
        refine wpAnyH_ready (rs := [8]) (by kernel_rfl) (by simp) ?_
        refine AllReadyH.cons (o := { dst := some 25, op := .call { callee := .value (.func 23), args := #[.tmp 23, .tmp 24], argTypes := #[27, 23] }, type := 4, pos := "law.go:95", after := #[{ on := 6, ground := .data }, { on := 7, ground := .data }, { on := 5, ground := .chain }, { on := 5, ground := .guard }], guard := some (5, false) }) rfl (fun KQ hKQ => ?_) AllReadyH.nil
        go_simp
        refine (E2.out _).mono ?_
        rintro e y5 ⟨rfl, hY5⟩
        have q5 := q4.trans (hY5.mono q4.size)
        have r5 := HS.out _ q5
        go_wp2_with fail
        refine hKQ.out _ _ ?s_8 (fun hHeld8 => ?_)
        case s_8 => exact r5
        clear hKQ KQ
        try simp only [Act.put, List.setIfInBounds_toArray, List.set_cons_zero, List.set_cons_succ]
        refine tk 9 { dst := some 26, op := .pick (.tmp 22) (.const (.bool true)) (.tmp 25), type := 4, pos := "law.go:95", after := #[{ on := 5, ground := .data }, { on := 8, ground := .data }], guard := none } _ ?_
        try simp only [Act.put, List.setIfInBounds_toArray, List.set_cons_zero, List.set_cons_succ]
        refine tk 10 { dst := some 27, op := .move (.tmp 26), type := 4, pos := "law.go:95", after := #[{ on := 9, ground := .data }, { on := 8, ground := .chain }], guard := none } _ ?_
        try simp only [Act.put, List.setIfInBounds_toArray, List.set_cons_zero, List.set_cons_succ]
        refine tk 11 { dst := some 28, op := .load 27 (.tmp 3), type := 27, pos := "law.go:95", after := #[{ on := 10, ground := .guard }], guard := some (10, true) } _ ?_
        try simp only [Act.put, List.setIfInBounds_toArray, List.set_cons_zero, List.set_cons_succ]
        refine tk 12 { dst := some 29, op := .move (.tmp 1), type := 23, pos := "law.go:95", after := #[{ on := 10, ground := .guard }], guard := some (10, true) } _ ?_
        try simp only [Act.put, List.setIfInBounds_toArray, List.set_cons_zero, List.set_cons_succ]
        refine tk 13 { dst := some 30, op := .binOp .and 23 (.tmp 29) (.const (.int .u16 1022)) 23, type := 23, pos := "law.go:95", after := #[{ on := 12, ground := .data }, { on := 10, ground := .guard }], guard := some (10, true) } _ ?_
        try simp only [Act.put, List.setIfInBounds_toArray, List.set_cons_zero, List.set_cons_succ]
        refine wpAnyH_ready (rs := [14]) (by kernel_rfl) (by simp) ?_
        refine AllReadyH.cons (o := { dst := some 31, op := .call { callee := .value (.func 25), args := #[.tmp 28, .tmp 30], argTypes := #[27, 23] }, type := 4, pos := "law.go:95", after := #[{ on := 11, ground := .data }, { on := 13, ground := .data }, { on := 10, ground := .chain }, { on := 10, ground := .guard }], guard := some (10, true) }) rfl (fun KQ hKQ => ?_) AllReadyH.nil
        go_simp
        refine (C1.out _).mono ?_
        rintro e y6 ⟨rfl, hY6⟩
        have q6 := q5.trans (hY6.mono q5.size)
        have r6 := HS.out _ q6
        go_wp2_with fail
        refine hKQ.out _ _ ?s_14 (fun hHeld14 => ?_)
        case s_14 => exact r6
        clear hKQ KQ
        try simp only [Act.put, List.setIfInBounds_toArray, List.set_cons_zero, List.set_cons_succ]
        refine tk 15 { dst := some 32, op := .unOp .not 4 (.tmp 31), type := 4, pos := "law.go:95", after := #[{ on := 14, ground := .data }, { on := 10, ground := .guard }], guard := some (10, true) } _ ?_
        try simp only [Act.put, List.setIfInBounds_toArray, List.set_cons_zero, List.set_cons_succ]
        refine tk 16 { dst := some 33, op := .move (.tmp 32), type := 4, pos := "law.go:95", after := #[{ on := 15, ground := .data }, { on := 14, ground := .chain }, { on := 10, ground := .guard }], guard := some (10, true) } _ ?_
        try simp only [Act.put, List.setIfInBounds_toArray, List.set_cons_zero, List.set_cons_succ]
        refine tk 17 { dst := some 34, op := .load 27 (.tmp 3), type := 27, pos := "law.go:95", after := #[{ on := 16, ground := .guard }], guard := some (16, false) } _ ?_
        try simp only [Act.put, List.setIfInBounds_toArray, List.set_cons_zero, List.set_cons_succ]
        refine tk 18 { dst := some 35, op := .move (.tmp 7), type := 23, pos := "law.go:95", after := #[{ on := 16, ground := .guard }], guard := some (16, false) } _ ?_
        try simp only [Act.put, List.setIfInBounds_toArray, List.set_cons_zero, List.set_cons_succ]
        refine wpAnyH_ready (rs := [19]) (by kernel_rfl) (by simp) ?_
        refine AllReadyH.cons (o := { dst := some 36, op := .call { callee := .value (.func 25), args := #[.tmp 34, .tmp 35], argTypes := #[27, 23] }, type := 4, pos := "law.go:95", after := #[{ on := 17, ground := .data }, { on := 18, ground := .data }, { on := 16, ground := .chain }, { on := 16, ground := .guard }], guard := some (16, false) }) rfl (fun KQ hKQ => ?_) AllReadyH.nil
        go_simp
        refine (C2.out _).mono ?_
        rintro e y7 ⟨rfl, hY7⟩
        have q7 := q6.trans (hY7.mono q6.size)
        have r7 := HS.out _ q7
        go_wp2_with fail
        refine hKQ.out _ _ ?s_19 (fun hHeld19 => ?_)
        case s_19 => exact r7
        clear hKQ KQ
        try simp only [Act.put, List.setIfInBounds_toArray, List.set_cons_zero, List.set_cons_succ]
        refine tk 20 { dst := some 37, op := .pick (.tmp 33) (.const (.bool true)) (.tmp 36), type := 4, pos := "law.go:95", after := #[{ on := 16, ground := .data }, { on := 19, ground := .data }, { on := 10, ground := .guard }], guard := some (10, true) } _ ?_
        try simp only [Act.put, List.setIfInBounds_toArray, List.set_cons_zero, List.set_cons_succ]
        refine tk 21 { dst := some 38, op := .pick (.tmp 27) (.tmp 37) (.const (.bool false)), type := 4, pos := "law.go:95", after := #[{ on := 10, ground := .data }, { on := 20, ground := .data }], guard := none } _ ?_
        try simp only [Act.put, List.setIfInBounds_toArray, List.set_cons_zero, List.set_cons_succ]
        refine tk 22 { dst := some 39, op := .move (.tmp 38), type := 4, pos := "law.go:95", after := #[{ on := 21, ground := .data }, { on := 19, ground := .chain }], guard := none } _ ?_
        try simp only [Act.put, List.setIfInBounds_toArray, List.set_cons_zero, List.set_cons_succ]
        refine tk 23 { dst := some 40, op := .load 27 (.tmp 3), type := 27, pos := "law.go:95", after := #[{ on := 22, ground := .guard }], guard := some (22, true) } _ ?_
        try simp only [Act.put, List.setIfInBounds_toArray, List.set_cons_zero, List.set_cons_succ]
        refine tk 24 { dst := some 41, op := .load 27 (.tmp 3), type := 27, pos := "law.go:95", after := #[{ on := 22, ground := .guard }], guard := some (22, true) } _ ?_
        try simp only [Act.put, List.setIfInBounds_toArray, List.set_cons_zero, List.set_cons_succ]
        refine wpAnyH_ready (rs := [25]) (by kernel_rfl) (by simp) ?_
        refine AllReadyH.cons (o := { dst := some 42, op := .call { callee := .value (.func 17), args := #[.tmp 41], argTypes := #[27] }, type := 23, pos := "law.go:95", after := #[{ on := 24, ground := .data }, { on := 22, ground := .chain }, { on := 22, ground := .guard }], guard := some (22, true) }) rfl (fun KQ hKQ => ?_) AllReadyH.nil
        go_simp
        refine (CV.out _).mono ?_
        rintro e y8 ⟨rfl, hY8⟩
        have q8 := q7.trans (hY8.mono q7.size)
        have r8 := HS.out _ q8
        go_wp2_with fail
        refine hKQ.out _ _ ?s_25 (fun hHeld25 => ?_)
        case s_25 => exact r8
        clear hKQ KQ
        try simp only [Act.put, List.setIfInBounds_toArray, List.set_cons_zero, List.set_cons_succ]
        refine wpAnyH_ready (rs := [26]) (by kernel_rfl) (by simp) ?_
        refine AllReadyH.cons (o := { dst := some 43, op := .call { callee := .value (.func 23), args := #[.tmp 40, .tmp 42], argTypes := #[27, 23] }, type := 4, pos := "law.go:95", after := #[{ on := 23, ground := .data }, { on := 25, ground := .data }, { on := 25, ground := .chain }, { on := 22, ground := .guard }], guard := some (22, true) }) rfl (fun KQ hKQ => ?_) AllReadyH.nil
        go_simp
        refine (EV.out _).mono ?_
        rintro e y9 ⟨rfl, hY9⟩
        have q9 := q8.trans (hY9.mono q8.size)
        have r9 := HS.out _ q9
        go_wp2_with fail
        refine hKQ.out _ _ ?s_26 (fun hHeld26 => ?_)
        case s_26 => exact r9
        clear hKQ KQ
        try simp only [Act.put, List.setIfInBounds_toArray, List.set_cons_zero, List.set_cons_succ]
        refine tk 27 { dst := some 44, op := .pick (.tmp 39) (.tmp 43) (.const (.bool false)), type := 4, pos := "law.go:95", after := #[{ on := 22, ground := .data }, { on := 26, ground := .data }], guard := none } _ ?_
        try simp only [Act.put, List.setIfInBounds_toArray, List.set_cons_zero, List.set_cons_succ]
        refine tk 28 { dst := some 45, op := .move (.tmp 44), type := 4, pos := "law.go:95", after := #[{ on := 27, ground := .data }, { on := 26, ground := .chain }], guard := none } _ ?_
        try simp only [Act.put, List.setIfInBounds_toArray, List.set_cons_zero, List.set_cons_succ]
        refine tk 29 { dst := some 46, op := .load 27 (.tmp 3), type := 27, pos := "law.go:95", after := #[{ on := 28, ground := .guard }], guard := some (28, true) } _ ?_
        try simp only [Act.put, List.setIfInBounds_toArray, List.set_cons_zero, List.set_cons_succ]
        refine tk 30 { dst := some 47, op := .load 27 (.tmp 3), type := 27, pos := "law.go:95", after := #[{ on := 28, ground := .guard }], guard := some (28, true) } _ ?_
        try simp only [Act.put, List.setIfInBounds_toArray, List.set_cons_zero, List.set_cons_succ]
        refine wpAnyH_ready (rs := [31]) (by kernel_rfl) (by simp) ?_
        refine AllReadyH.cons (o := { dst := some 48, op := .call { callee := .value (.func 17), args := #[.tmp 47], argTypes := #[27] }, type := 23, pos := "law.go:95", after := #[{ on := 30, ground := .data }, { on := 28, ground := .chain }, { on := 28, ground := .guard }], guard := some (28, true) }) rfl (fun KQ hKQ => ?_) AllReadyH.nil
        go_simp
        refine (CV.out _).mono ?_
        rintro e y10 ⟨rfl, hY10⟩
        have q10 := q9.trans (hY10.mono q9.size)
        have r10 := HS.out _ q10
        go_wp2_with fail
        refine hKQ.out _ _ ?s_31 (fun hHeld31 => ?_)
        case s_31 => exact r10
        clear hKQ KQ
        try simp only [Act.put, List.setIfInBounds_toArray, List.set_cons_zero, List.set_cons_succ]
        refine wpAnyH_ready (rs := [32]) (by kernel_rfl) (by simp) ?_
        refine AllReadyH.cons (o := { dst := some 49, op := .call { callee := .value (.func 25), args := #[.tmp 46, .tmp 48], argTypes := #[27, 23] }, type := 4, pos := "law.go:95", after := #[{ on := 29, ground := .data }, { on := 31, ground := .data }, { on := 31, ground := .chain }, { on := 28, ground := .guard }], guard := some (28, true) }) rfl (fun KQ hKQ => ?_) AllReadyH.nil
        go_simp
        refine (CC.out _).mono ?_
        rintro e y11 ⟨rfl, hY11⟩
        have q11 := q10.trans (hY11.mono q10.size)
        have r11 := HS.out _ q11
        go_wp2_with fail
        refine hKQ.out _ _ ?s_32 (fun hHeld32 => ?_)
        case s_32 => exact r11
        clear hKQ KQ
        try simp only [Act.put, List.setIfInBounds_toArray, List.set_cons_zero, List.set_cons_succ]
        refine tk 33 { dst := some 50, op := .pick (.tmp 45) (.tmp 49) (.const (.bool false)), type := 4, pos := "law.go:95", after := #[{ on := 28, ground := .data }, { on := 32, ground := .data }], guard := none } _ ?_
        try simp only [Act.put, List.setIfInBounds_toArray, List.set_cons_zero, List.set_cons_succ]
        refine tk 34 { dst := some 51, op := .move (.tmp 50), type := 4, pos := "law.go:95", after := #[{ on := 33, ground := .data }, { on := 32, ground := .chain }], guard := none } _ ?_
        try simp only [Act.put, List.setIfInBounds_toArray, List.set_cons_zero, List.set_cons_succ]
        refine tk 35 { dst := some 52, op := .load 27 (.tmp 3), type := 27, pos := "law.go:95", after := #[{ on := 34, ground := .guard }], guard := some (34, true) } _ ?_
        try simp only [Act.put, List.setIfInBounds_toArray, List.set_cons_zero, List.set_cons_succ]
        refine wpAnyH_ready (rs := [36]) (by kernel_rfl) (by simp) ?_
        refine AllReadyH.cons (o := { dst := some 53, op := .call { callee := .value (.func 23), args := #[.tmp 52, .const (.int .u16 0)], argTypes := #[27, 23] }, type := 4, pos := "law.go:95", after := #[{ on := 35, ground := .data }, { on := 34, ground := .chain }, { on := 34, ground := .guard }], guard := some (34, true) }) rfl (fun KQ hKQ => ?_) AllReadyH.nil
        go_simp
        refine (EZ.out _).mono ?_
        rintro e y12 ⟨rfl, hY12⟩
        have q12 := q11.trans (hY12.mono q11.size)
        have r12 := HS.out _ q12
        go_wp2_with fail
        refine hKQ.out _ _ ?s_36 (fun hHeld36 => ?_)
        case s_36 => exact r12
        clear hKQ KQ
        try simp only [Act.put, List.setIfInBounds_toArray, List.set_cons_zero, List.set_cons_succ]
        refine tk 37 { dst := some 54, op := .unOp .not 4 (.tmp 53), type := 4, pos := "law.go:95", after := #[{ on := 36, ground := .data }, { on := 34, ground := .guard }], guard := some (34, true) } _ ?_
        try simp only [Act.put, List.setIfInBounds_toArray, List.set_cons_zero, List.set_cons_succ]
        refine tk 38 { dst := some 55, op := .pick (.tmp 51) (.tmp 54) (.const (.bool false)), type := 4, pos := "law.go:95", after := #[{ on := 34, ground := .data }, { on := 37, ground := .data }], guard := none } _ ?_
        try simp only [Act.put, List.setIfInBounds_toArray, List.set_cons_zero, List.set_cons_succ]
        refine tk 39 { dst := some 56, op := .move (.tmp 55), type := 4, pos := "law.go:95", after := #[{ on := 38, ground := .data }, { on := 36, ground := .chain }], guard := none } _ ?_
        try simp only [Act.put, List.setIfInBounds_toArray, List.set_cons_zero, List.set_cons_succ]
        refine tk 40 { dst := some 57, op := .load 27 (.tmp 3), type := 27, pos := "law.go:95", after := #[{ on := 39, ground := .guard }], guard := some (39, true) } _ ?_
        try simp only [Act.put, List.setIfInBounds_toArray, List.set_cons_zero, List.set_cons_succ]
        refine wpAnyH_ready (rs := [41]) (by kernel_rfl) (by simp) ?_
        refine AllReadyH.cons (o := { dst := some 58, op := .call { callee := .value (.func 25), args := #[.tmp 57, .const (.int .u16 0)], argTypes := #[27, 23] }, type := 4, pos := "law.go:95", after := #[{ on := 40, ground := .data }, { on := 39, ground := .chain }, { on := 39, ground := .guard }], guard := some (39, true) }) rfl (fun KQ hKQ => ?_) AllReadyH.nil
        go_simp
        refine (CZ.out _).mono ?_
        rintro e y13 ⟨rfl, hY13⟩
        have q13 := q12.trans (hY13.mono q12.size)
        have r13 := HS.out _ q13
        go_wp2_with fail
        refine hKQ.out _ _ ?s_41 (fun hHeld41 => ?_)
        case s_41 => exact r13
        clear hKQ KQ
        try simp only [Act.put, List.setIfInBounds_toArray, List.set_cons_zero, List.set_cons_succ]
        refine tk 42 { dst := some 59, op := .unOp .not 4 (.tmp 58), type := 4, pos := "law.go:95", after := #[{ on := 41, ground := .data }, { on := 39, ground := .guard }], guard := some (39, true) } _ ?_
        try simp only [Act.put, List.setIfInBounds_toArray, List.set_cons_zero, List.set_cons_succ]
        refine tk 43 { dst := some 60, op := .pick (.tmp 56) (.tmp 59) (.const (.bool false)), type := 4, pos := "law.go:95", after := #[{ on := 39, ground := .data }, { on := 42, ground := .data }], guard := none } _ ?_
        try simp only [Act.put, List.setIfInBounds_toArray, List.set_cons_zero, List.set_cons_succ]
        refine tk 44 { dst := some 61, op := .move (.tmp 60), type := 4, pos := "law.go:95", after := #[{ on := 43, ground := .data }, { on := 41, ground := .chain }], guard := none } _ ?_
        try simp only [Act.put, List.setIfInBounds_toArray, List.set_cons_zero, List.set_cons_succ]
        refine tk 45 { dst := some 62, op := .load 27 (.tmp 3), type := 27, pos := "law.go:95", after := #[{ on := 44, ground := .guard }], guard := some (44, true) } _ ?_
        try simp only [Act.put, List.setIfInBounds_toArray, List.set_cons_zero, List.set_cons_succ]
        refine wpAnyH_ready (rs := [46]) (by kernel_rfl) (by simp) ?_
        refine AllReadyH.cons (o := { dst := some 63, op := .call { callee := .value (.func 15), args := #[.tmp 62], argTypes := #[27] }, type := 23, pos := "law.go:95", after := #[{ on := 45, ground := .data }, { on := 44, ground := .chain }, { on := 44, ground := .guard }], guard := some (44, true) }) rfl (fun KQ hKQ => ?_) AllReadyH.nil
        go_simp
        refine (CM.out _).mono ?_
        rintro e y14 ⟨rfl, hY14⟩
        have q14 := q13.trans (hY14.mono q13.size)
        have r14 := HS.out _ q14
        go_wp2_with fail
        refine hKQ.out _ _ ?s_46 (fun hHeld46 => ?_)
        case s_46 => exact r14
        clear hKQ KQ
        try simp only [Act.put, List.setIfInBounds_toArray, List.set_cons_zero, List.set_cons_succ]
        refine wpAnyH_ready (rs := [47]) (by kernel_rfl) (by simp) ?_
        refine AllReadyH.cons (o := { dst := some 64, op := .call { callee := .value (.func 33), args := #[.tmp 63], argTypes := #[23] }, type := 3, pos := "law.go:95", after := #[{ on := 46, ground := .data }, { on := 46, ground := .chain }, { on := 44, ground := .guard }], guard := some (44, true) }) rfl (fun KQ hKQ => ?_) AllReadyH.nil
        go_simp
        refine (CN.out _).mono ?_
        rintro e y15 ⟨rfl, hY15⟩
        have q15 := q14.trans (hY15.mono q14.size)
        have r15 := HS.out _ q15
        go_wp2_with fail
        refine hKQ.out _ _ ?s_47 (fun hHeld47 => ?_)
        case s_47 => exact r15
        clear hKQ KQ
        try simp only [Act.put, List.setIfInBounds_toArray, List.set_cons_zero, List.set_cons_succ]
        refine tk 48 { dst := some 65, op := .binOp .geq 3 (.tmp 64) (.const (.int .i64 1)) 3, type := 4, pos := "law.go:95", after := #[{ on := 47, ground := .data }, { on := 44, ground := .guard }], guard := some (44, true) } _ ?_
        try simp only [Act.put, List.setIfInBounds_toArray, List.set_cons_zero, List.set_cons_succ]
        refine tk 49 { dst := some 66, op := .pick (.tmp 61) (.tmp 65) (.const (.bool false)), type := 4, pos := "law.go:95", after := #[{ on := 44, ground := .data }, { on := 48, ground := .data }], guard := none } _ ?_
        try simp only [Act.put, List.setIfInBounds_toArray, List.set_cons_zero, List.set_cons_succ]
        refine tk 50 { dst := some 6, op := .assign (.tmp 66), type := 4, pos := "law.go:95", after := #[{ on := 49, ground := .data }, { on := 47, ground := .chain }, { on := 0, ground := .phase }, { on := 1, ground := .phase }, { on := 2, ground := .phase }, { on := 3, ground := .phase }, { on := 4, ground := .phase }, { on := 5, ground := .phase }, { on := 6, ground := .phase }, { on := 7, ground := .phase }, { on := 8, ground := .phase }, { on := 9, ground := .phase }, { on := 10, ground := .phase }, { on := 11, ground := .phase }, { on := 12, ground := .phase }, { on := 13, ground := .phase }, { on := 14, ground := .phase }, { on := 15, ground := .phase }, { on := 16, ground := .phase }, { on := 17, ground := .phase }, { on := 18, ground := .phase }, { on := 19, ground := .phase }, { on := 20, ground := .phase }, { on := 21, ground := .phase }, { on := 22, ground := .phase }, { on := 23, ground := .phase }, { on := 24, ground := .phase }, { on := 25, ground := .phase }, { on := 26, ground := .phase }, { on := 27, ground := .phase }, { on := 28, ground := .phase }, { on := 29, ground := .phase }, { on := 30, ground := .phase }, { on := 31, ground := .phase }, { on := 32, ground := .phase }, { on := 33, ground := .phase }, { on := 34, ground := .phase }, { on := 35, ground := .phase }, { on := 36, ground := .phase }, { on := 37, ground := .phase }, { on := 38, ground := .phase }, { on := 39, ground := .phase }, { on := 40, ground := .phase }, { on := 41, ground := .phase }, { on := 42, ground := .phase }, { on := 43, ground := .phase }, { on := 44, ground := .phase }, { on := 45, ground := .phase }, { on := 46, ground := .phase }, { on := 47, ground := .phase }, { on := 48, ground := .phase }, { on := 49, ground := .phase }], guard := none } _ ?_
        try simp only [Act.put, List.setIfInBounds_toArray, List.set_cons_zero, List.set_cons_succ]
        refine wpAnyH_done (by kernel_rfl) ?_ _
        go_wp2_with fail
        go_ret
        exact ⟨ref9.ret_bool (by simp), HB.out.trans (q15.mono HB.out.size)⟩
theorem more_walk (j : JtL) (got more : Int) (w : World) (h : j.ok) (w1 : (Lit.int .u16 got).wf = true) (w2 : (Lit.int .u16 more).wf = true) :
    Calls Try.prog 7 #[jtV j, .int .u16 got, .int .u16 more] w fun e w' => e = .returned (.bool true) ∧ Below w.heap.size w w' := by
  obtain ⟨got, rfl, hg⟩ := u16_wf w1
  obtain ⟨more, rfl, hm⟩ := u16_wf w2
  exact more_nat j got more w h hg hm
end Go.Proofs.Ytdpfpcdoocampaa.law10
