/- What the document's answer to conf (antipoderef10) tells of joints: what elects, what commits, where a change ends. Conditions: sets are uint16 values, numbers int. -/
import Derived.Test.YtfcljdpjjabhjaaDoorRef10c
namespace Go.Proofs.YtfcljdpjjabhjaaDoor.ref10
open Go Go.RowKit Go.Proofs.YtfcljdpjjabhjaaDoor.kit Go.Proofs.YtfcljdpjjabhjaaDoor.nums Go.Proofs.YtfcljdpjjabhjaaDoor.se Go.Proofs.YtfcljdpjjabhjaaDoor.cf
set_option linter.unusedVariables false

theorem el_ref (c : CfL) (got : Nat) : elC c got = decide (c.e ≤ cntF (meetF (joinF c.v c.w) got)) := by
  have e : cntF (got &&& votF c) = cntF (meetF (joinF c.v c.w) got) := by
    rw [cnt_meet]
    unfold joinF votF
    rw [Nat.and_assoc, Nat.and_comm 1022 got, ← Nat.and_assoc, cnt_and, Nat.and_comm]
  unfold elC; rw [e]
theorem co_ref {c : CfL} (h : mayF c.v = true) (got : Nat) : coC c got = (decide (c.k ≤ cntF (meetF (joinF c.v c.w) got)) && decide (meetF c.v got ≠ 0)) := by
  have e := el_ref { c with e := c.k } got
  unfold elC at e
  unfold coC
  rw [meet_may got h, Nat.and_comm c.v got]
  exact congrArg (· && _) e
set_option maxHeartbeats 1000000 in
theorem elects_any (j : JtL) (got : Nat) (w : World) (h : j.ok) (hg : got < 65536) : Calls Tryd.prog 19 #[jtV j, .int .u16 (got : Int)] w fun e w' => e = .returned (.bool (elJ j got)) ∧ Below w.heap.size w w' := by
  have HK := Lib.hid (two_ok h)
  have CT := Lib.hid (fun w => two_any j w)
  have CV := Lib.hid (fun (c : CfL) (hc : c.ok) w => votes_any c w hc)
  have CM := Lib.hid (fun (a : Nat) (ha : a < 65536) w => ref9.meet_any a got w ha hg)
  have CC := Lib.hid (fun (a : Nat) (ha : a < 65536) w => ref9.count_any a w ha)
  have HR : Hid (elJ j got = (twoL j).all fun c => elC c got) := both_all j _
  have h2 := two_len j
  rw [HR.out]
  clear HR h
  generalize twoL j = L at *
  obtain ⟨k, hk⟩ : ∃ k, L.length = k := ⟨_, rfl⟩
  rw [hk] at CT h2
  unfold jtV at *
  obtain ⟨⟨av, aw, al, ae, ak⟩, ⟨bv, bw, bl, be, bk⟩, t⟩ := j
  dsimp only at *
  have hB0 := (Below.refl w.heap.size w).alloc (Nat.le_refl _) (.cells #[.int .u16 (av : Int), .int .u16 (aw : Int), .int .u16 (al : Int), .int .i64 ae, .int .i64 ak, .int .u16 (bv : Int), .int .u16 (bw : Int), .int .u16 (bl : Int), .int .i64 be, .int .i64 bk, .bool t] 43)
  go_enter Tryd.func19, Tryd.ntmps19
  go_wp2_with fail
  refine (CT.out _).mono ?_
  rintro e w2 ⟨p, rfl, hp, hB2, hA⟩
  have HA := Lib.hid hA
  have HB2 := Lib.hid (hB0.trans (hB2.mono hB0.size))
  clear hA hB0 hB2 CT
  go_wp2_with fail
  go_loopw [6] (fun iv wr => ∃ i : Nat, i ≤ k ∧ iv = .int .i64 (i : Int) ∧ Below w2.heap.size w2 wr ∧ Hid (∀ c ∈ L.take i, (fun c => elC c got) c = true)) (fun iv _ => k - (intOf iv).toNat)
  case atStart => exact ⟨0, Nat.zero_le _, rfl, Below.refl _ _, fun c hc => by simp at hc⟩
  case round =>
    obtain ⟨i, hi, rfl, hBr, HI⟩ := hrel
    by_cases hlt : i < k
    · obtain ⟨c, hc⟩ : ∃ c, L[i]? = some c := ⟨L[i]'(by omega), List.getElem?_eq_getElem _⟩
      have hok := HK.out c (List.mem_of_getElem? hc)
      have hA := HA.out i c hc
      have HC := Lib.hid hc
      clear hc
      have cV := Lib.hid (CV.out c hok)
      have cM := Lib.hid (CM.out (joinF c.v c.w) (join_lt hok.1 hok.2.1))
      have cC := Lib.hid (CC.out (meetF (joinF c.v c.w) got) (meet_lt (join_lt hok.1 hok.2.1)))
      have HE := Lib.hid (el_ref c got)
      have hn9 := cntF_le (meetF (joinF c.v c.w) got)
      generalize cntF (meetF (joinF c.v c.w) got) = n at *
      generalize meetF (joinF c.v c.w) got = sm at *
      generalize joinF c.v c.w = sv at *
      have HS : Hid (∀ wq, Below wr.heap.size wr wq → (wq.cell? ⟨p, i * 5, none⟩ = some (.int .u16 (c.v : Int)) ∧ wq.cell? ⟨p, i * 5 + 1, none⟩ = some (.int .u16 (c.w : Int)) ∧ wq.cell? ⟨p, i * 5 + 2, none⟩ = some (.int .u16 (c.l : Int)) ∧ wq.cell? ⟨p, i * 5 + 3, none⟩ = some (.int .i64 c.e) ∧ wq.cell? ⟨p, i * 5 + 4, none⟩ = some (.int .i64 c.k))) := fun wq hq => at5 (hA.below hp (hBr.trans (hq.mono hBr.size)))
      clear hA
      unfold cfV at *
      obtain ⟨cv, cw, cl, ce, ck⟩ := c
      dsimp only at *
      have q0 := Below.refl wr.heap.size wr
      have r0 := HS.out _ q0
      go_upto_region 5 with (fail)
      by_cases hp : ce ≤ n
      · have g : decide ((n : Int) < ce) = false := decide_eq_false (by omega)
        have HP := Lib.hid hp
        clear hp
        have q1 := q0.drew
        refine wp_region_held_drew (S := fun wq => (wq.cell? ⟨p, i * 5, none⟩ = some (.int .u16 (cv : Int)) ∧ wq.cell? ⟨p, i * 5 + 1, none⟩ = some (.int .u16 (cw : Int)) ∧ wq.cell? ⟨p, i * 5 + 2, none⟩ = some (.int .u16 (cl : Int)) ∧ wq.cell? ⟨p, i * 5 + 3, none⟩ = some (.int .i64 ce) ∧ wq.cell? ⟨p, i * 5 + 4, none⟩ = some (.int .i64 ck))) (by kernel_rfl) ?s_rel5a (fun hHeld => ?_)
        case s_rel5a => exact HS.out _ q1
        refine tk 0 { dst := some 15, op := .move (.tmp 5), type := 63, pos := "ref.go:83", after := #[], guard := none } _ ?_
        try simp only [Act.put, List.setIfInBounds_toArray, List.set_cons_zero, List.set_cons_succ]
        refine tk 1 { dst := some 16, op := .move (.tmp 6), type := 3, pos := "ref.go:83", after := #[], guard := none } _ ?_
        try simp only [Act.put, List.setIfInBounds_toArray, List.set_cons_zero, List.set_cons_succ]
        refine tk 2 { dst := some 17, op := .indexAddr 63 (.tmp 15) (.tmp 16), type := 0, pos := "ref.go:83", after := #[{ on := 0, ground := .data }, { on := 1, ground := .data }], guard := none } _ ?_
        try simp only [Act.put, List.setIfInBounds_toArray, List.set_cons_zero, List.set_cons_succ]
        refine tk 3 { dst := some 18, op := .load 30 (.tmp 17), type := 30, pos := "ref.go:83", after := #[{ on := 2, ground := .data }], guard := none } _ ?_
        try simp only [Act.put, List.setIfInBounds_toArray, List.set_cons_zero, List.set_cons_succ]
        refine tk 5 { dst := some 20, op := .move (.tmp 1), type := 28, pos := "ref.go:83", after := #[], guard := none } _ ?_
        try simp only [Act.put, List.setIfInBounds_toArray, List.set_cons_zero, List.set_cons_succ]
        refine tk 8 { dst := some 23, op := .move (.tmp 5), type := 63, pos := "ref.go:83", after := #[], guard := none } _ ?_
        try simp only [Act.put, List.setIfInBounds_toArray, List.set_cons_zero, List.set_cons_succ]
        refine tk 9 { dst := some 24, op := .move (.tmp 6), type := 3, pos := "ref.go:83", after := #[], guard := none } _ ?_
        try simp only [Act.put, List.setIfInBounds_toArray, List.set_cons_zero, List.set_cons_succ]
        refine tk 10 { dst := some 25, op := .indexAddr 63 (.tmp 23) (.tmp 24), type := 0, pos := "ref.go:83", after := #[{ on := 8, ground := .data }, { on := 9, ground := .data }], guard := none } _ ?_
        try simp only [Act.put, List.setIfInBounds_toArray, List.set_cons_zero, List.set_cons_succ]
        refine tk 11 { dst := some 26, op := .fieldAddr 30 (.tmp 25) 3, type := 0, pos := "ref.go:83", after := #[{ on := 10, ground := .data }], guard := none } _ ?_
        try simp only [Act.put, List.setIfInBounds_toArray, List.set_cons_zero, List.set_cons_succ]
        refine tk 12 { dst := some 27, op := .load 3 (.tmp 26), type := 3, pos := "ref.go:83", after := #[{ on := 11, ground := .data }], guard := none } _ ?_
        try simp only [Act.put, List.setIfInBounds_toArray, List.set_cons_zero, List.set_cons_succ]
        refine wpAnyH_ready (rs := [4]) (by kernel_rfl) (by simp) ?_
        refine AllReadyH.cons (o := { dst := some 19, op := .call { callee := .value (.func 33), args := #[.tmp 18], argTypes := #[30] }, type := 28, pos := "ref.go:83", after := #[{ on := 3, ground := .data }], guard := none }) rfl (fun KQ hKQ => ?_) AllReadyH.nil
        go_simp
        refine (cV.out _).mono ?_
        rintro e y2 ⟨rfl, hY2⟩
        have q2 := q1.trans (hY2.mono q1.size)
        have r2 := HS.out _ q2
        go_wp2_with fail
        refine hKQ.out _ _ ?s_4 (fun hHeld4 => ?_)
        case s_4 => exact r2
        clear hKQ KQ
        try simp only [Act.put, List.setIfInBounds_toArray, List.set_cons_zero, List.set_cons_succ]
        refine wpAnyH_ready (rs := [6]) (by kernel_rfl) (by simp) ?_
        refine AllReadyH.cons (o := { dst := some 21, op := .call { callee := .value (.func 21), args := #[.tmp 19, .tmp 20], argTypes := #[28, 28] }, type := 28, pos := "ref.go:83", after := #[{ on := 4, ground := .data }, { on := 5, ground := .data }, { on := 4, ground := .chain }], guard := none }) rfl (fun KQ hKQ => ?_) AllReadyH.nil
        go_simp
        refine (cM.out _).mono ?_
        rintro e y3 ⟨rfl, rfl⟩
        have r3 := HS.out _ q2
        go_wp2_with fail
        refine hKQ.out _ _ ?s_6 (fun hHeld6 => ?_)
        case s_6 => exact r3
        clear hKQ KQ
        try simp only [Act.put, List.setIfInBounds_toArray, List.set_cons_zero, List.set_cons_succ]
        refine wpAnyH_ready (rs := [7]) (by kernel_rfl) (by simp) ?_
        refine AllReadyH.cons (o := { dst := some 22, op := .call { callee := .value (.func 32), args := #[.tmp 21], argTypes := #[28] }, type := 3, pos := "ref.go:83", after := #[{ on := 6, ground := .data }, { on := 6, ground := .chain }], guard := none }) rfl (fun KQ hKQ => ?_) AllReadyH.nil
        go_simp
        refine (cC.out _).mono ?_
        rintro e y4 ⟨rfl, hY4⟩
        have q4 := q2.trans (hY4.mono q2.size)
        have r4 := HS.out _ q4
        go_wp2_with fail
        refine hKQ.out _ _ ?s_7 (fun hHeld7 => ?_)
        case s_7 => exact r4
        clear hKQ KQ
        try simp only [Act.put, List.setIfInBounds_toArray, List.set_cons_zero, List.set_cons_succ]
        refine tk 13 { dst := some 28, op := .binOp .lss 3 (.tmp 22) (.tmp 27) 3, type := 4, pos := "ref.go:83", after := #[{ on := 7, ground := .data }, { on := 12, ground := .data }], guard := none } _ ?_
        try simp only [Act.put, List.setIfInBounds_toArray, List.set_cons_zero, List.set_cons_succ]
        refine wpAnyH_done (by kernel_rfl) ?_ _
        go_wp2_with fail
        go_round
        case rel => exact ⟨i + 1, by omega, by go_num, hBr.trans (q4.mono hBr.size), take_more HI.out HC.out (by rw [HE.out]; exact decide_eq_true HP.out)⟩
        case measure => simp [intOf]; omega
      · have g : decide ((n : Int) < ce) = true := decide_eq_true (by omega)
        have HP := Lib.hid hp
        clear hp
        have q1 := q0.drew
        refine wp_region_held_drew (S := fun wq => (wq.cell? ⟨p, i * 5, none⟩ = some (.int .u16 (cv : Int)) ∧ wq.cell? ⟨p, i * 5 + 1, none⟩ = some (.int .u16 (cw : Int)) ∧ wq.cell? ⟨p, i * 5 + 2, none⟩ = some (.int .u16 (cl : Int)) ∧ wq.cell? ⟨p, i * 5 + 3, none⟩ = some (.int .i64 ce) ∧ wq.cell? ⟨p, i * 5 + 4, none⟩ = some (.int .i64 ck))) (by kernel_rfl) ?s_rel5b (fun hHeld => ?_)
        case s_rel5b => exact HS.out _ q1
        refine tk 0 { dst := some 15, op := .move (.tmp 5), type := 63, pos := "ref.go:83", after := #[], guard := none } _ ?_
        try simp only [Act.put, List.setIfInBounds_toArray, List.set_cons_zero, List.set_cons_succ]
        refine tk 1 { dst := some 16, op := .move (.tmp 6), type := 3, pos := "ref.go:83", after := #[], guard := none } _ ?_
        try simp only [Act.put, List.setIfInBounds_toArray, List.set_cons_zero, List.set_cons_succ]
        refine tk 2 { dst := some 17, op := .indexAddr 63 (.tmp 15) (.tmp 16), type := 0, pos := "ref.go:83", after := #[{ on := 0, ground := .data }, { on := 1, ground := .data }], guard := none } _ ?_
        try simp only [Act.put, List.setIfInBounds_toArray, List.set_cons_zero, List.set_cons_succ]
        refine tk 3 { dst := some 18, op := .load 30 (.tmp 17), type := 30, pos := "ref.go:83", after := #[{ on := 2, ground := .data }], guard := none } _ ?_
        try simp only [Act.put, List.setIfInBounds_toArray, List.set_cons_zero, List.set_cons_succ]
        refine tk 5 { dst := some 20, op := .move (.tmp 1), type := 28, pos := "ref.go:83", after := #[], guard := none } _ ?_
        try simp only [Act.put, List.setIfInBounds_toArray, List.set_cons_zero, List.set_cons_succ]
        refine tk 8 { dst := some 23, op := .move (.tmp 5), type := 63, pos := "ref.go:83", after := #[], guard := none } _ ?_
        try simp only [Act.put, List.setIfInBounds_toArray, List.set_cons_zero, List.set_cons_succ]
        refine tk 9 { dst := some 24, op := .move (.tmp 6), type := 3, pos := "ref.go:83", after := #[], guard := none } _ ?_
        try simp only [Act.put, List.setIfInBounds_toArray, List.set_cons_zero, List.set_cons_succ]
        refine tk 10 { dst := some 25, op := .indexAddr 63 (.tmp 23) (.tmp 24), type := 0, pos := "ref.go:83", after := #[{ on := 8, ground := .data }, { on := 9, ground := .data }], guard := none } _ ?_
        try simp only [Act.put, List.setIfInBounds_toArray, List.set_cons_zero, List.set_cons_succ]
        refine tk 11 { dst := some 26, op := .fieldAddr 30 (.tmp 25) 3, type := 0, pos := "ref.go:83", after := #[{ on := 10, ground := .data }], guard := none } _ ?_
        try simp only [Act.put, List.setIfInBounds_toArray, List.set_cons_zero, List.set_cons_succ]
        refine tk 12 { dst := some 27, op := .load 3 (.tmp 26), type := 3, pos := "ref.go:83", after := #[{ on := 11, ground := .data }], guard := none } _ ?_
        try simp only [Act.put, List.setIfInBounds_toArray, List.set_cons_zero, List.set_cons_succ]
        refine wpAnyH_ready (rs := [4]) (by kernel_rfl) (by simp) ?_
        refine AllReadyH.cons (o := { dst := some 19, op := .call { callee := .value (.func 33), args := #[.tmp 18], argTypes := #[30] }, type := 28, pos := "ref.go:83", after := #[{ on := 3, ground := .data }], guard := none }) rfl (fun KQ hKQ => ?_) AllReadyH.nil
        go_simp
        refine (cV.out _).mono ?_
        rintro e y2 ⟨rfl, hY2⟩
        have q2 := q1.trans (hY2.mono q1.size)
        have r2 := HS.out _ q2
        go_wp2_with fail
        refine hKQ.out _ _ ?s_4 (fun hHeld4 => ?_)
        case s_4 => exact r2
        clear hKQ KQ
        try simp only [Act.put, List.setIfInBounds_toArray, List.set_cons_zero, List.set_cons_succ]
        refine wpAnyH_ready (rs := [6]) (by kernel_rfl) (by simp) ?_
        refine AllReadyH.cons (o := { dst := some 21, op := .call { callee := .value (.func 21), args := #[.tmp 19, .tmp 20], argTypes := #[28, 28] }, type := 28, pos := "ref.go:83", after := #[{ on := 4, ground := .data }, { on := 5, ground := .data }, { on := 4, ground := .chain }], guard := none }) rfl (fun KQ hKQ => ?_) AllReadyH.nil
        go_simp
        refine (cM.out _).mono ?_
        rintro e y3 ⟨rfl, rfl⟩
        have r3 := HS.out _ q2
        go_wp2_with fail
        refine hKQ.out _ _ ?s_6 (fun hHeld6 => ?_)
        case s_6 => exact r3
        clear hKQ KQ
        try simp only [Act.put, List.setIfInBounds_toArray, List.set_cons_zero, List.set_cons_succ]
        refine wpAnyH_ready (rs := [7]) (by kernel_rfl) (by simp) ?_
        refine AllReadyH.cons (o := { dst := some 22, op := .call { callee := .value (.func 32), args := #[.tmp 21], argTypes := #[28] }, type := 3, pos := "ref.go:83", after := #[{ on := 6, ground := .data }, { on := 6, ground := .chain }], guard := none }) rfl (fun KQ hKQ => ?_) AllReadyH.nil
        go_simp
        refine (cC.out _).mono ?_
        rintro e y4 ⟨rfl, hY4⟩
        have q4 := q2.trans (hY4.mono q2.size)
        have r4 := HS.out _ q4
        go_wp2_with fail
        refine hKQ.out _ _ ?s_7 (fun hHeld7 => ?_)
        case s_7 => exact r4
        clear hKQ KQ
        try simp only [Act.put, List.setIfInBounds_toArray, List.set_cons_zero, List.set_cons_succ]
        refine tk 13 { dst := some 28, op := .binOp .lss 3 (.tmp 22) (.tmp 27) 3, type := 4, pos := "ref.go:83", after := #[{ on := 7, ground := .data }, { on := 12, ground := .data }], guard := none } _ ?_
        try simp only [Act.put, List.setIfInBounds_toArray, List.set_cons_zero, List.set_cons_succ]
        refine wpAnyH_done (by kernel_rfl) ?_ _
        go_wp2_with fail
        go_ret
        exact ⟨ref9.ret_bool (by rw [all_bad (P := fun c => elC c got) HC.out (by rw [HE.out]; exact decide_eq_false (by have := HP.out; omega))]), HB2.out.trans ((hBr.trans (q4.mono hBr.size)).mono HB2.out.size)⟩
    · obtain rfl : i = k := by omega
      go_wp2_with fail
      go_ret
      exact ⟨ref9.ret_bool (by rw [all_good HI.out hk]), HB2.out.trans (hBr.mono HB2.out.size)⟩
set_option maxHeartbeats 1000000 in
theorem commits_any (j : JtL) (got : Nat) (w : World) (h : j.ok) (hg : got < 65536) (hm : mayJ j = true) : Calls Tryd.prog 20 #[jtV j, .int .u16 (got : Int)] w fun e w' => e = .returned (.bool (coJ j got)) ∧ Below w.heap.size w w' := by
  have HK := Lib.hid (two_ok h)
  have CT := Lib.hid (fun w => two_any j w)
  have HMY := Lib.hid (two_may hm)
  have CV := Lib.hid (fun (c : CfL) (hc : c.ok) w => votes_any c w hc)
  have CM := Lib.hid (fun (a : Nat) (ha : a < 65536) w => ref9.meet_any a got w ha hg)
  have CC := Lib.hid (fun (a : Nat) (ha : a < 65536) w => ref9.count_any a w ha)
  have HR : Hid (coJ j got = (twoL j).all fun c => coC c got) := both_all j _
  have h2 := two_len j
  rw [HR.out]
  clear HR h
  generalize twoL j = L at *
  obtain ⟨k, hk⟩ : ∃ k, L.length = k := ⟨_, rfl⟩
  rw [hk] at CT h2
  unfold jtV at *
  obtain ⟨⟨av, aw, al, ae, ak⟩, ⟨bv, bw, bl, be, bk⟩, t⟩ := j
  dsimp only at *
  have hB0 := (Below.refl w.heap.size w).alloc (Nat.le_refl _) (.cells #[.int .u16 (av : Int), .int .u16 (aw : Int), .int .u16 (al : Int), .int .i64 ae, .int .i64 ak, .int .u16 (bv : Int), .int .u16 (bw : Int), .int .u16 (bl : Int), .int .i64 be, .int .i64 bk, .bool t] 43)
  go_enter Tryd.func20, Tryd.ntmps20
  go_wp2_with fail
  refine (CT.out _).mono ?_
  rintro e w2 ⟨p, rfl, hp, hB2, hA⟩
  have HA := Lib.hid hA
  have HB2 := Lib.hid (hB0.trans (hB2.mono hB0.size))
  clear hA hB0 hB2 CT
  go_wp2_with fail
  go_loopw [6] (fun iv wr => ∃ i : Nat, i ≤ k ∧ iv = .int .i64 (i : Int) ∧ Below w2.heap.size w2 wr ∧ Hid (∀ c ∈ L.take i, (fun c => coC c got) c = true)) (fun iv _ => k - (intOf iv).toNat)
  case atStart => exact ⟨0, Nat.zero_le _, rfl, Below.refl _ _, fun c hc => by simp at hc⟩
  case round =>
    obtain ⟨i, hi, rfl, hBr, HI⟩ := hrel
    by_cases hlt : i < k
    · obtain ⟨c, hc⟩ : ∃ c, L[i]? = some c := ⟨L[i]'(by omega), List.getElem?_eq_getElem _⟩
      have hok := HK.out c (List.mem_of_getElem? hc)
      have hA := HA.out i c hc
      have HC := Lib.hid hc
      clear hc
      have cV := Lib.hid (CV.out c hok)
      have cM := Lib.hid (CM.out (joinF c.v c.w) (join_lt hok.1 hok.2.1))
      have cC := Lib.hid (CC.out (meetF (joinF c.v c.w) got) (meet_lt (join_lt hok.1 hok.2.1)))
      have cZ := Lib.hid (CM.out c.v hok.1)
      have HE := Lib.hid (co_ref (may_parts (HMY.out c (List.mem_of_getElem? HC.out))).1 got)
      have hn9 := cntF_le (meetF (joinF c.v c.w) got)
      generalize cntF (meetF (joinF c.v c.w) got) = n at *
      generalize meetF (joinF c.v c.w) got = sm at *
      generalize joinF c.v c.w = sv at *
      generalize meetF c.v got = z at *
      have HS : Hid (∀ wq, Below wr.heap.size wr wq → (wq.cell? ⟨p, i * 5, none⟩ = some (.int .u16 (c.v : Int)) ∧ wq.cell? ⟨p, i * 5 + 1, none⟩ = some (.int .u16 (c.w : Int)) ∧ wq.cell? ⟨p, i * 5 + 2, none⟩ = some (.int .u16 (c.l : Int)) ∧ wq.cell? ⟨p, i * 5 + 3, none⟩ = some (.int .i64 c.e) ∧ wq.cell? ⟨p, i * 5 + 4, none⟩ = some (.int .i64 c.k))) := fun wq hq => at5 (hA.below hp (hBr.trans (hq.mono hBr.size)))
      clear hA
      unfold cfV at *
      obtain ⟨cv, cw, cl, ce, ck⟩ := c
      dsimp only at *
      have q0 := Below.refl wr.heap.size wr
      have r0 := HS.out _ q0
      go_upto_region 5 with (fail)
      by_cases hp : ck ≤ n
      · have g : decide ((n : Int) < ck) = false := decide_eq_false (by omega)
        have HP := Lib.hid hp
        clear hp
        by_cases hz : z = 0
        · have g2 : ((z : Int) == 0) = true := by rw [beq_iff_eq]; omega
          have HZ := Lib.hid hz
          clear hz
          have q1 := q0.drew
          refine wp_region_held_drew (S := fun wq => (wq.cell? ⟨p, i * 5, none⟩ = some (.int .u16 (cv : Int)) ∧ wq.cell? ⟨p, i * 5 + 1, none⟩ = some (.int .u16 (cw : Int)) ∧ wq.cell? ⟨p, i * 5 + 2, none⟩ = some (.int .u16 (cl : Int)) ∧ wq.cell? ⟨p, i * 5 + 3, none⟩ = some (.int .i64 ce) ∧ wq.cell? ⟨p, i * 5 + 4, none⟩ = some (.int .i64 ck))) (by kernel_rfl) ?s_rco5a (fun hHeld => ?_)
          case s_rco5a => exact HS.out _ q1
          refine tk 0 { dst := some 15, op := .move (.tmp 5), type := 63, pos := "ref.go:93", after := #[], guard := none } _ ?_
          try simp only [Act.put, List.setIfInBounds_toArray, List.set_cons_zero, List.set_cons_succ]
          refine tk 1 { dst := some 16, op := .move (.tmp 6), type := 3, pos := "ref.go:93", after := #[], guard := none } _ ?_
          try simp only [Act.put, List.setIfInBounds_toArray, List.set_cons_zero, List.set_cons_succ]
          refine tk 2 { dst := some 17, op := .indexAddr 63 (.tmp 15) (.tmp 16), type := 0, pos := "ref.go:93", after := #[{ on := 0, ground := .data }, { on := 1, ground := .data }], guard := none } _ ?_
          try simp only [Act.put, List.setIfInBounds_toArray, List.set_cons_zero, List.set_cons_succ]
          refine tk 3 { dst := some 18, op := .load 30 (.tmp 17), type := 30, pos := "ref.go:93", after := #[{ on := 2, ground := .data }], guard := none } _ ?_
          try simp only [Act.put, List.setIfInBounds_toArray, List.set_cons_zero, List.set_cons_succ]
          refine tk 5 { dst := some 20, op := .move (.tmp 1), type := 28, pos := "ref.go:93", after := #[], guard := none } _ ?_
          try simp only [Act.put, List.setIfInBounds_toArray, List.set_cons_zero, List.set_cons_succ]
          refine tk 8 { dst := some 23, op := .move (.tmp 5), type := 63, pos := "ref.go:93", after := #[], guard := none } _ ?_
          try simp only [Act.put, List.setIfInBounds_toArray, List.set_cons_zero, List.set_cons_succ]
          refine tk 9 { dst := some 24, op := .move (.tmp 6), type := 3, pos := "ref.go:93", after := #[], guard := none } _ ?_
          try simp only [Act.put, List.setIfInBounds_toArray, List.set_cons_zero, List.set_cons_succ]
          refine tk 10 { dst := some 25, op := .indexAddr 63 (.tmp 23) (.tmp 24), type := 0, pos := "ref.go:93", after := #[{ on := 8, ground := .data }, { on := 9, ground := .data }], guard := none } _ ?_
          try simp only [Act.put, List.setIfInBounds_toArray, List.set_cons_zero, List.set_cons_succ]
          refine tk 11 { dst := some 26, op := .fieldAddr 30 (.tmp 25) 4, type := 0, pos := "ref.go:93", after := #[{ on := 10, ground := .data }], guard := none } _ ?_
          try simp only [Act.put, List.setIfInBounds_toArray, List.set_cons_zero, List.set_cons_succ]
          refine tk 12 { dst := some 27, op := .load 3 (.tmp 26), type := 3, pos := "ref.go:93", after := #[{ on := 11, ground := .data }], guard := none } _ ?_
          try simp only [Act.put, List.setIfInBounds_toArray, List.set_cons_zero, List.set_cons_succ]
          refine wpAnyH_ready (rs := [4]) (by kernel_rfl) (by simp) ?_
          refine AllReadyH.cons (o := { dst := some 19, op := .call { callee := .value (.func 33), args := #[.tmp 18], argTypes := #[30] }, type := 28, pos := "ref.go:93", after := #[{ on := 3, ground := .data }], guard := none }) rfl (fun KQ hKQ => ?_) AllReadyH.nil
          go_simp
          refine (cV.out _).mono ?_
          rintro e y2 ⟨rfl, hY2⟩
          have q2 := q1.trans (hY2.mono q1.size)
          have r2 := HS.out _ q2
          go_wp2_with fail
          refine hKQ.out _ _ ?s_4 (fun hHeld4 => ?_)
          case s_4 => exact r2
          clear hKQ KQ
          try simp only [Act.put, List.setIfInBounds_toArray, List.set_cons_zero, List.set_cons_succ]
          refine wpAnyH_ready (rs := [6]) (by kernel_rfl) (by simp) ?_
          refine AllReadyH.cons (o := { dst := some 21, op := .call { callee := .value (.func 21), args := #[.tmp 19, .tmp 20], argTypes := #[28, 28] }, type := 28, pos := "ref.go:93", after := #[{ on := 4, ground := .data }, { on := 5, ground := .data }, { on := 4, ground := .chain }], guard := none }) rfl (fun KQ hKQ => ?_) AllReadyH.nil
          go_simp
          refine (cM.out _).mono ?_
          rintro e y3 ⟨rfl, rfl⟩
          have r3 := HS.out _ q2
          go_wp2_with fail
          refine hKQ.out _ _ ?s_6 (fun hHeld6 => ?_)
          case s_6 => exact r3
          clear hKQ KQ
          try simp only [Act.put, List.setIfInBounds_toArray, List.set_cons_zero, List.set_cons_succ]
          refine wpAnyH_ready (rs := [7]) (by kernel_rfl) (by simp) ?_
          refine AllReadyH.cons (o := { dst := some 22, op := .call { callee := .value (.func 32), args := #[.tmp 21], argTypes := #[28] }, type := 3, pos := "ref.go:93", after := #[{ on := 6, ground := .data }, { on := 6, ground := .chain }], guard := none }) rfl (fun KQ hKQ => ?_) AllReadyH.nil
          go_simp
          refine (cC.out _).mono ?_
          rintro e y4 ⟨rfl, hY4⟩
          have q4 := q2.trans (hY4.mono q2.size)
          have r4 := HS.out _ q4
          go_wp2_with fail
          refine hKQ.out _ _ ?s_7 (fun hHeld7 => ?_)
          case s_7 => exact r4
          clear hKQ KQ
          try simp only [Act.put, List.setIfInBounds_toArray, List.set_cons_zero, List.set_cons_succ]
          refine tk 13 { dst := some 28, op := .binOp .lss 3 (.tmp 22) (.tmp 27) 3, type := 4, pos := "ref.go:93", after := #[{ on := 7, ground := .data }, { on := 12, ground := .data }], guard := none } _ ?_
          try simp only [Act.put, List.setIfInBounds_toArray, List.set_cons_zero, List.set_cons_succ]
          refine tk 14 { dst := some 29, op := .move (.tmp 28), type := 4, pos := "ref.go:93", after := #[{ on := 13, ground := .data }, { on := 7, ground := .chain }], guard := none } _ ?_
          try simp only [Act.put, List.setIfInBounds_toArray, List.set_cons_zero, List.set_cons_succ]
          refine tk 15 { dst := some 30, op := .move (.tmp 5), type := 63, pos := "ref.go:93", after := #[{ on := 14, ground := .guard }], guard := some (14, false) } _ ?_
          try simp only [Act.put, List.setIfInBounds_toArray, List.set_cons_zero, List.set_cons_succ]
          refine tk 16 { dst := some 31, op := .move (.tmp 6), type := 3, pos := "ref.go:93", after := #[{ on := 14, ground := .guard }], guard := some (14, false) } _ ?_
          try simp only [Act.put, List.setIfInBounds_toArray, List.set_cons_zero, List.set_cons_succ]
          refine tk 17 { dst := some 32, op := .indexAddr 63 (.tmp 30) (.tmp 31), type := 0, pos := "ref.go:93", after := #[{ on := 15, ground := .data }, { on := 16, ground := .data }, { on := 14, ground := .guard }], guard := some (14, false) } _ ?_
          try simp only [Act.put, List.setIfInBounds_toArray, List.set_cons_zero, List.set_cons_succ]
          refine tk 18 { dst := some 33, op := .fieldAddr 30 (.tmp 32) 0, type := 0, pos := "ref.go:93", after := #[{ on := 17, ground := .data }, { on := 14, ground := .guard }], guard := some (14, false) } _ ?_
          try simp only [Act.put, List.setIfInBounds_toArray, List.set_cons_zero, List.set_cons_succ]
          refine tk 19 { dst := some 34, op := .load 28 (.tmp 33), type := 28, pos := "ref.go:93", after := #[{ on := 18, ground := .data }, { on := 14, ground := .guard }], guard := some (14, false) } _ ?_
          try simp only [Act.put, List.setIfInBounds_toArray, List.set_cons_zero, List.set_cons_succ]
          refine tk 20 { dst := some 35, op := .move (.tmp 1), type := 28, pos := "ref.go:93", after := #[{ on := 14, ground := .guard }], guard := some (14, false) } _ ?_
          try simp only [Act.put, List.setIfInBounds_toArray, List.set_cons_zero, List.set_cons_succ]
          refine wpAnyH_ready (rs := [21]) (by kernel_rfl) (by simp) ?_
          refine AllReadyH.cons (o := { dst := some 36, op := .call { callee := .value (.func 21), args := #[.tmp 34, .tmp 35], argTypes := #[28, 28] }, type := 28, pos := "ref.go:93", after := #[{ on := 19, ground := .data }, { on := 20, ground := .data }, { on := 14, ground := .chain }, { on := 14, ground := .guard }], guard := some (14, false) }) rfl (fun KQ hKQ => ?_) AllReadyH.nil
          go_simp
          refine (cZ.out _).mono ?_
          rintro e y5 ⟨rfl, rfl⟩
          have r5 := HS.out _ q4
          go_wp2_with fail
          refine hKQ.out _ _ ?s_21 (fun hHeld21 => ?_)
          case s_21 => exact r5
          clear hKQ KQ
          try simp only [Act.put, List.setIfInBounds_toArray, List.set_cons_zero, List.set_cons_succ]
          refine tk 22 { dst := some 37, op := .binOp .eql 28 (.tmp 36) (.const (.int .u16 0)) 28, type := 4, pos := "ref.go:93", after := #[{ on := 21, ground := .data }, { on := 14, ground := .guard }], guard := some (14, false) } _ ?_
          try simp only [Act.put, List.setIfInBounds_toArray, List.set_cons_zero, List.set_cons_succ]
          refine tk 23 { dst := some 38, op := .pick (.tmp 29) (.const (.bool true)) (.tmp 37), type := 4, pos := "ref.go:93", after := #[{ on := 14, ground := .data }, { on := 22, ground := .data }], guard := none } _ ?_
          try simp only [Act.put, List.setIfInBounds_toArray, List.set_cons_zero, List.set_cons_succ]
          refine wpAnyH_done (by kernel_rfl) ?_ _
          go_wp2_with fail
          go_ret
          exact ⟨ref9.ret_bool (by rw [all_bad (P := fun c => coC c got) HC.out (by rw [HE.out, HZ.out]; simp)]), HB2.out.trans ((hBr.trans (q4.mono hBr.size)).mono HB2.out.size)⟩
        · have g2 : ((z : Int) == 0) = false := by rw [beq_eq_false_iff_ne]; omega
          have HZ := Lib.hid hz
          clear hz
          have q1 := q0.drew
          refine wp_region_held_drew (S := fun wq => (wq.cell? ⟨p, i * 5, none⟩ = some (.int .u16 (cv : Int)) ∧ wq.cell? ⟨p, i * 5 + 1, none⟩ = some (.int .u16 (cw : Int)) ∧ wq.cell? ⟨p, i * 5 + 2, none⟩ = some (.int .u16 (cl : Int)) ∧ wq.cell? ⟨p, i * 5 + 3, none⟩ = some (.int .i64 ce) ∧ wq.cell? ⟨p, i * 5 + 4, none⟩ = some (.int .i64 ck))) (by kernel_rfl) ?s_rco5b (fun hHeld => ?_)
          case s_rco5b => exact HS.out _ q1
          refine tk 0 { dst := some 15, op := .move (.tmp 5), type := 63, pos := "ref.go:93", after := #[], guard := none } _ ?_
          try simp only [Act.put, List.setIfInBounds_toArray, List.set_cons_zero, List.set_cons_succ]
          refine tk 1 { dst := some 16, op := .move (.tmp 6), type := 3, pos := "ref.go:93", after := #[], guard := none } _ ?_
          try simp only [Act.put, List.setIfInBounds_toArray, List.set_cons_zero, List.set_cons_succ]
          refine tk 2 { dst := some 17, op := .indexAddr 63 (.tmp 15) (.tmp 16), type := 0, pos := "ref.go:93", after := #[{ on := 0, ground := .data }, { on := 1, ground := .data }], guard := none } _ ?_
          try simp only [Act.put, List.setIfInBounds_toArray, List.set_cons_zero, List.set_cons_succ]
          refine tk 3 { dst := some 18, op := .load 30 (.tmp 17), type := 30, pos := "ref.go:93", after := #[{ on := 2, ground := .data }], guard := none } _ ?_
          try simp only [Act.put, List.setIfInBounds_toArray, List.set_cons_zero, List.set_cons_succ]
          refine tk 5 { dst := some 20, op := .move (.tmp 1), type := 28, pos := "ref.go:93", after := #[], guard := none } _ ?_
          try simp only [Act.put, List.setIfInBounds_toArray, List.set_cons_zero, List.set_cons_succ]
          refine tk 8 { dst := some 23, op := .move (.tmp 5), type := 63, pos := "ref.go:93", after := #[], guard := none } _ ?_
          try simp only [Act.put, List.setIfInBounds_toArray, List.set_cons_zero, List.set_cons_succ]
          refine tk 9 { dst := some 24, op := .move (.tmp 6), type := 3, pos := "ref.go:93", after := #[], guard := none } _ ?_
          try simp only [Act.put, List.setIfInBounds_toArray, List.set_cons_zero, List.set_cons_succ]
          refine tk 10 { dst := some 25, op := .indexAddr 63 (.tmp 23) (.tmp 24), type := 0, pos := "ref.go:93", after := #[{ on := 8, ground := .data }, { on := 9, ground := .data }], guard := none } _ ?_
          try simp only [Act.put, List.setIfInBounds_toArray, List.set_cons_zero, List.set_cons_succ]
          refine tk 11 { dst := some 26, op := .fieldAddr 30 (.tmp 25) 4, type := 0, pos := "ref.go:93", after := #[{ on := 10, ground := .data }], guard := none } _ ?_
          try simp only [Act.put, List.setIfInBounds_toArray, List.set_cons_zero, List.set_cons_succ]
          refine tk 12 { dst := some 27, op := .load 3 (.tmp 26), type := 3, pos := "ref.go:93", after := #[{ on := 11, ground := .data }], guard := none } _ ?_
          try simp only [Act.put, List.setIfInBounds_toArray, List.set_cons_zero, List.set_cons_succ]
          refine wpAnyH_ready (rs := [4]) (by kernel_rfl) (by simp) ?_
          refine AllReadyH.cons (o := { dst := some 19, op := .call { callee := .value (.func 33), args := #[.tmp 18], argTypes := #[30] }, type := 28, pos := "ref.go:93", after := #[{ on := 3, ground := .data }], guard := none }) rfl (fun KQ hKQ => ?_) AllReadyH.nil
          go_simp
          refine (cV.out _).mono ?_
          rintro e y2 ⟨rfl, hY2⟩
          have q2 := q1.trans (hY2.mono q1.size)
          have r2 := HS.out _ q2
          go_wp2_with fail
          refine hKQ.out _ _ ?s_4 (fun hHeld4 => ?_)
          case s_4 => exact r2
          clear hKQ KQ
          try simp only [Act.put, List.setIfInBounds_toArray, List.set_cons_zero, List.set_cons_succ]
          refine wpAnyH_ready (rs := [6]) (by kernel_rfl) (by simp) ?_
          refine AllReadyH.cons (o := { dst := some 21, op := .call { callee := .value (.func 21), args := #[.tmp 19, .tmp 20], argTypes := #[28, 28] }, type := 28, pos := "ref.go:93", after := #[{ on := 4, ground := .data }, { on := 5, ground := .data }, { on := 4, ground := .chain }], guard := none }) rfl (fun KQ hKQ => ?_) AllReadyH.nil
          go_simp
          refine (cM.out _).mono ?_
          rintro e y3 ⟨rfl, rfl⟩
          have r3 := HS.out _ q2
          go_wp2_with fail
          refine hKQ.out _ _ ?s_6 (fun hHeld6 => ?_)
          case s_6 => exact r3
          clear hKQ KQ
          try simp only [Act.put, List.setIfInBounds_toArray, List.set_cons_zero, List.set_cons_succ]
          refine wpAnyH_ready (rs := [7]) (by kernel_rfl) (by simp) ?_
          refine AllReadyH.cons (o := { dst := some 22, op := .call { callee := .value (.func 32), args := #[.tmp 21], argTypes := #[28] }, type := 3, pos := "ref.go:93", after := #[{ on := 6, ground := .data }, { on := 6, ground := .chain }], guard := none }) rfl (fun KQ hKQ => ?_) AllReadyH.nil
          go_simp
          refine (cC.out _).mono ?_
          rintro e y4 ⟨rfl, hY4⟩
          have q4 := q2.trans (hY4.mono q2.size)
          have r4 := HS.out _ q4
          go_wp2_with fail
          refine hKQ.out _ _ ?s_7 (fun hHeld7 => ?_)
          case s_7 => exact r4
          clear hKQ KQ
          try simp only [Act.put, List.setIfInBounds_toArray, List.set_cons_zero, List.set_cons_succ]
          refine tk 13 { dst := some 28, op := .binOp .lss 3 (.tmp 22) (.tmp 27) 3, type := 4, pos := "ref.go:93", after := #[{ on := 7, ground := .data }, { on := 12, ground := .data }], guard := none } _ ?_
          try simp only [Act.put, List.setIfInBounds_toArray, List.set_cons_zero, List.set_cons_succ]
          refine tk 14 { dst := some 29, op := .move (.tmp 28), type := 4, pos := "ref.go:93", after := #[{ on := 13, ground := .data }, { on := 7, ground := .chain }], guard := none } _ ?_
          try simp only [Act.put, List.setIfInBounds_toArray, List.set_cons_zero, List.set_cons_succ]
          refine tk 15 { dst := some 30, op := .move (.tmp 5), type := 63, pos := "ref.go:93", after := #[{ on := 14, ground := .guard }], guard := some (14, false) } _ ?_
          try simp only [Act.put, List.setIfInBounds_toArray, List.set_cons_zero, List.set_cons_succ]
          refine tk 16 { dst := some 31, op := .move (.tmp 6), type := 3, pos := "ref.go:93", after := #[{ on := 14, ground := .guard }], guard := some (14, false) } _ ?_
          try simp only [Act.put, List.setIfInBounds_toArray, List.set_cons_zero, List.set_cons_succ]
          refine tk 17 { dst := some 32, op := .indexAddr 63 (.tmp 30) (.tmp 31), type := 0, pos := "ref.go:93", after := #[{ on := 15, ground := .data }, { on := 16, ground := .data }, { on := 14, ground := .guard }], guard := some (14, false) } _ ?_
          try simp only [Act.put, List.setIfInBounds_toArray, List.set_cons_zero, List.set_cons_succ]
          refine tk 18 { dst := some 33, op := .fieldAddr 30 (.tmp 32) 0, type := 0, pos := "ref.go:93", after := #[{ on := 17, ground := .data }, { on := 14, ground := .guard }], guard := some (14, false) } _ ?_
          try simp only [Act.put, List.setIfInBounds_toArray, List.set_cons_zero, List.set_cons_succ]
          refine tk 19 { dst := some 34, op := .load 28 (.tmp 33), type := 28, pos := "ref.go:93", after := #[{ on := 18, ground := .data }, { on := 14, ground := .guard }], guard := some (14, false) } _ ?_
          try simp only [Act.put, List.setIfInBounds_toArray, List.set_cons_zero, List.set_cons_succ]
          refine tk 20 { dst := some 35, op := .move (.tmp 1), type := 28, pos := "ref.go:93", after := #[{ on := 14, ground := .guard }], guard := some (14, false) } _ ?_
          try simp only [Act.put, List.setIfInBounds_toArray, List.set_cons_zero, List.set_cons_succ]
          refine wpAnyH_ready (rs := [21]) (by kernel_rfl) (by simp) ?_
          refine AllReadyH.cons (o := { dst := some 36, op := .call { callee := .value (.func 21), args := #[.tmp 34, .tmp 35], argTypes := #[28, 28] }, type := 28, pos := "ref.go:93", after := #[{ on := 19, ground := .data }, { on := 20, ground := .data }, { on := 14, ground := .chain }, { on := 14, ground := .guard }], guard := some (14, false) }) rfl (fun KQ hKQ => ?_) AllReadyH.nil
          go_simp
          refine (cZ.out _).mono ?_
          rintro e y5 ⟨rfl, rfl⟩
          have r5 := HS.out _ q4
          go_wp2_with fail
          refine hKQ.out _ _ ?s_21 (fun hHeld21 => ?_)
          case s_21 => exact r5
          clear hKQ KQ
          try simp only [Act.put, List.setIfInBounds_toArray, List.set_cons_zero, List.set_cons_succ]
          refine tk 22 { dst := some 37, op := .binOp .eql 28 (.tmp 36) (.const (.int .u16 0)) 28, type := 4, pos := "ref.go:93", after := #[{ on := 21, ground := .data }, { on := 14, ground := .guard }], guard := some (14, false) } _ ?_
          try simp only [Act.put, List.setIfInBounds_toArray, List.set_cons_zero, List.set_cons_succ]
          refine tk 23 { dst := some 38, op := .pick (.tmp 29) (.const (.bool true)) (.tmp 37), type := 4, pos := "ref.go:93", after := #[{ on := 14, ground := .data }, { on := 22, ground := .data }], guard := none } _ ?_
          try simp only [Act.put, List.setIfInBounds_toArray, List.set_cons_zero, List.set_cons_succ]
          refine wpAnyH_done (by kernel_rfl) ?_ _
          go_wp2_with fail
          go_round
          case rel => exact ⟨i + 1, by omega, by go_num, hBr.trans (q4.mono hBr.size), take_more HI.out HC.out (by rw [HE.out, decide_eq_true HP.out, decide_eq_true HZ.out]; rfl)⟩
          case measure => simp [intOf]; omega
      · have g : decide ((n : Int) < ck) = true := decide_eq_true (by omega)
        have HP := Lib.hid hp
        clear hp
        have q1 := q0.drew
        refine wp_region_held_drew (S := fun wq => (wq.cell? ⟨p, i * 5, none⟩ = some (.int .u16 (cv : Int)) ∧ wq.cell? ⟨p, i * 5 + 1, none⟩ = some (.int .u16 (cw : Int)) ∧ wq.cell? ⟨p, i * 5 + 2, none⟩ = some (.int .u16 (cl : Int)) ∧ wq.cell? ⟨p, i * 5 + 3, none⟩ = some (.int .i64 ce) ∧ wq.cell? ⟨p, i * 5 + 4, none⟩ = some (.int .i64 ck))) (by kernel_rfl) ?s_rco5c (fun hHeld => ?_)
        case s_rco5c => exact HS.out _ q1
        refine tk 0 { dst := some 15, op := .move (.tmp 5), type := 63, pos := "ref.go:93", after := #[], guard := none } _ ?_
        try simp only [Act.put, List.setIfInBounds_toArray, List.set_cons_zero, List.set_cons_succ]
        refine tk 1 { dst := some 16, op := .move (.tmp 6), type := 3, pos := "ref.go:93", after := #[], guard := none } _ ?_
        try simp only [Act.put, List.setIfInBounds_toArray, List.set_cons_zero, List.set_cons_succ]
        refine tk 2 { dst := some 17, op := .indexAddr 63 (.tmp 15) (.tmp 16), type := 0, pos := "ref.go:93", after := #[{ on := 0, ground := .data }, { on := 1, ground := .data }], guard := none } _ ?_
        try simp only [Act.put, List.setIfInBounds_toArray, List.set_cons_zero, List.set_cons_succ]
        refine tk 3 { dst := some 18, op := .load 30 (.tmp 17), type := 30, pos := "ref.go:93", after := #[{ on := 2, ground := .data }], guard := none } _ ?_
        try simp only [Act.put, List.setIfInBounds_toArray, List.set_cons_zero, List.set_cons_succ]
        refine tk 5 { dst := some 20, op := .move (.tmp 1), type := 28, pos := "ref.go:93", after := #[], guard := none } _ ?_
        try simp only [Act.put, List.setIfInBounds_toArray, List.set_cons_zero, List.set_cons_succ]
        refine tk 8 { dst := some 23, op := .move (.tmp 5), type := 63, pos := "ref.go:93", after := #[], guard := none } _ ?_
        try simp only [Act.put, List.setIfInBounds_toArray, List.set_cons_zero, List.set_cons_succ]
        refine tk 9 { dst := some 24, op := .move (.tmp 6), type := 3, pos := "ref.go:93", after := #[], guard := none } _ ?_
        try simp only [Act.put, List.setIfInBounds_toArray, List.set_cons_zero, List.set_cons_succ]
        refine tk 10 { dst := some 25, op := .indexAddr 63 (.tmp 23) (.tmp 24), type := 0, pos := "ref.go:93", after := #[{ on := 8, ground := .data }, { on := 9, ground := .data }], guard := none } _ ?_
        try simp only [Act.put, List.setIfInBounds_toArray, List.set_cons_zero, List.set_cons_succ]
        refine tk 11 { dst := some 26, op := .fieldAddr 30 (.tmp 25) 4, type := 0, pos := "ref.go:93", after := #[{ on := 10, ground := .data }], guard := none } _ ?_
        try simp only [Act.put, List.setIfInBounds_toArray, List.set_cons_zero, List.set_cons_succ]
        refine tk 12 { dst := some 27, op := .load 3 (.tmp 26), type := 3, pos := "ref.go:93", after := #[{ on := 11, ground := .data }], guard := none } _ ?_
        try simp only [Act.put, List.setIfInBounds_toArray, List.set_cons_zero, List.set_cons_succ]
        refine wpAnyH_ready (rs := [4]) (by kernel_rfl) (by simp) ?_
        refine AllReadyH.cons (o := { dst := some 19, op := .call { callee := .value (.func 33), args := #[.tmp 18], argTypes := #[30] }, type := 28, pos := "ref.go:93", after := #[{ on := 3, ground := .data }], guard := none }) rfl (fun KQ hKQ => ?_) AllReadyH.nil
        go_simp
        refine (cV.out _).mono ?_
        rintro e y2 ⟨rfl, hY2⟩
        have q2 := q1.trans (hY2.mono q1.size)
        have r2 := HS.out _ q2
        go_wp2_with fail
        refine hKQ.out _ _ ?s_4 (fun hHeld4 => ?_)
        case s_4 => exact r2
        clear hKQ KQ
        try simp only [Act.put, List.setIfInBounds_toArray, List.set_cons_zero, List.set_cons_succ]
        refine wpAnyH_ready (rs := [6]) (by kernel_rfl) (by simp) ?_
        refine AllReadyH.cons (o := { dst := some 21, op := .call { callee := .value (.func 21), args := #[.tmp 19, .tmp 20], argTypes := #[28, 28] }, type := 28, pos := "ref.go:93", after := #[{ on := 4, ground := .data }, { on := 5, ground := .data }, { on := 4, ground := .chain }], guard := none }) rfl (fun KQ hKQ => ?_) AllReadyH.nil
        go_simp
        refine (cM.out _).mono ?_
        rintro e y3 ⟨rfl, rfl⟩
        have r3 := HS.out _ q2
        go_wp2_with fail
        refine hKQ.out _ _ ?s_6 (fun hHeld6 => ?_)
        case s_6 => exact r3
        clear hKQ KQ
        try simp only [Act.put, List.setIfInBounds_toArray, List.set_cons_zero, List.set_cons_succ]
        refine wpAnyH_ready (rs := [7]) (by kernel_rfl) (by simp) ?_
        refine AllReadyH.cons (o := { dst := some 22, op := .call { callee := .value (.func 32), args := #[.tmp 21], argTypes := #[28] }, type := 3, pos := "ref.go:93", after := #[{ on := 6, ground := .data }, { on := 6, ground := .chain }], guard := none }) rfl (fun KQ hKQ => ?_) AllReadyH.nil
        go_simp
        refine (cC.out _).mono ?_
        rintro e y4 ⟨rfl, hY4⟩
        have q4 := q2.trans (hY4.mono q2.size)
        have r4 := HS.out _ q4
        go_wp2_with fail
        refine hKQ.out _ _ ?s_7 (fun hHeld7 => ?_)
        case s_7 => exact r4
        clear hKQ KQ
        try simp only [Act.put, List.setIfInBounds_toArray, List.set_cons_zero, List.set_cons_succ]
        refine tk 13 { dst := some 28, op := .binOp .lss 3 (.tmp 22) (.tmp 27) 3, type := 4, pos := "ref.go:93", after := #[{ on := 7, ground := .data }, { on := 12, ground := .data }], guard := none } _ ?_
        try simp only [Act.put, List.setIfInBounds_toArray, List.set_cons_zero, List.set_cons_succ]
        refine tk 14 { dst := some 29, op := .move (.tmp 28), type := 4, pos := "ref.go:93", after := #[{ on := 13, ground := .data }, { on := 7, ground := .chain }], guard := none } _ ?_
        try simp only [Act.put, List.setIfInBounds_toArray, List.set_cons_zero, List.set_cons_succ]
        refine tu 15 { dst := some 30, op := .move (.tmp 5), type := 63, pos := "ref.go:93", after := #[{ on := 14, ground := .guard }], guard := some (14, false) } ?_
        try simp only [Act.put, List.setIfInBounds_toArray, List.set_cons_zero, List.set_cons_succ]
        refine tu 16 { dst := some 31, op := .move (.tmp 6), type := 3, pos := "ref.go:93", after := #[{ on := 14, ground := .guard }], guard := some (14, false) } ?_
        try simp only [Act.put, List.setIfInBounds_toArray, List.set_cons_zero, List.set_cons_succ]
        refine tu 17 { dst := some 32, op := .indexAddr 63 (.tmp 30) (.tmp 31), type := 0, pos := "ref.go:93", after := #[{ on := 15, ground := .data }, { on := 16, ground := .data }, { on := 14, ground := .guard }], guard := some (14, false) } ?_
        try simp only [Act.put, List.setIfInBounds_toArray, List.set_cons_zero, List.set_cons_succ]
        refine tu 18 { dst := some 33, op := .fieldAddr 30 (.tmp 32) 0, type := 0, pos := "ref.go:93", after := #[{ on := 17, ground := .data }, { on := 14, ground := .guard }], guard := some (14, false) } ?_
        try simp only [Act.put, List.setIfInBounds_toArray, List.set_cons_zero, List.set_cons_succ]
        refine tu 19 { dst := some 34, op := .load 28 (.tmp 33), type := 28, pos := "ref.go:93", after := #[{ on := 18, ground := .data }, { on := 14, ground := .guard }], guard := some (14, false) } ?_
        try simp only [Act.put, List.setIfInBounds_toArray, List.set_cons_zero, List.set_cons_succ]
        refine tu 20 { dst := some 35, op := .move (.tmp 1), type := 28, pos := "ref.go:93", after := #[{ on := 14, ground := .guard }], guard := some (14, false) } ?_
        try simp only [Act.put, List.setIfInBounds_toArray, List.set_cons_zero, List.set_cons_succ]
        refine tu 21 { dst := some 36, op := .call { callee := .value (.func 21), args := #[.tmp 34, .tmp 35], argTypes := #[28, 28] }, type := 28, pos := "ref.go:93", after := #[{ on := 19, ground := .data }, { on := 20, ground := .data }, { on := 14, ground := .chain }, { on := 14, ground := .guard }], guard := some (14, false) } ?_
        try simp only [Act.put, List.setIfInBounds_toArray, List.set_cons_zero, List.set_cons_succ]
        refine tu 22 { dst := some 37, op := .binOp .eql 28 (.tmp 36) (.const (.int .u16 0)) 28, type := 4, pos := "ref.go:93", after := #[{ on := 21, ground := .data }, { on := 14, ground := .guard }], guard := some (14, false) } ?_
        try simp only [Act.put, List.setIfInBounds_toArray, List.set_cons_zero, List.set_cons_succ]
        refine tk 23 { dst := some 38, op := .pick (.tmp 29) (.const (.bool true)) (.tmp 37), type := 4, pos := "ref.go:93", after := #[{ on := 14, ground := .data }, { on := 22, ground := .data }], guard := none } _ ?_
        try simp only [Act.put, List.setIfInBounds_toArray, List.set_cons_zero, List.set_cons_succ]
        refine wpAnyH_done (by kernel_rfl) ?_ _
        go_wp2_with fail
        go_ret
        exact ⟨ref9.ret_bool (by rw [all_bad (P := fun c => coC c got) HC.out (by rw [HE.out, decide_eq_false (by have := HP.out; omega)]; rfl)]), HB2.out.trans ((hBr.trans (q4.mono hBr.size)).mono HB2.out.size)⟩
    · obtain rfl : i = k := by omega
      go_wp2_with fail
      go_ret
      exact ⟨ref9.ret_bool (by rw [all_good HI.out hk]), HB2.out.trans (hBr.mono HB2.out.size)⟩
end Go.Proofs.YtfcljdpjjabhjaaDoor.ref10
