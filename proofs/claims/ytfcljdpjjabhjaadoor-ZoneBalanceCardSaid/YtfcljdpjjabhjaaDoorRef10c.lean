/- What the document's answer to conf (antipoderef10) tells of joints: which may be, who is in them. Conditions: sets are uint16 values, numbers int. -/
import Derived.Test.YtfcljdpjjabhjaaDoorRef10b
import Derived.Test.YtfcljdpjjabhjaaDoorEqCf
namespace Go.Proofs.YtfcljdpjjabhjaaDoor.ref10
open Go Go.RowKit Go.Proofs.YtfcljdpjjabhjaaDoor.kit Go.Proofs.YtfcljdpjjabhjaaDoor.nums Go.Proofs.YtfcljdpjjabhjaaDoor.se Go.Proofs.YtfcljdpjjabhjaaDoor.cf
set_option linter.unusedVariables false

theorem votes_fold {j : JtL} (hm : mayJ j = true) : unF j votF = (twoL j).foldl (fun s c => joinF s (joinF c.v c.w)) 0 := by
  obtain ⟨a1, a2, a3, _⟩ := may_parts (mayJ_a hm)
  have hb := fun ht => may_parts (mayJ_b hm ht)
  unfold unF twoL votF
  cases ht : j.two
  · simp only [Bool.false_eq_true, if_false, List.foldl_cons, List.foldl_nil]
    rw [join_may a1 a2, join_may may_zero (by rw [may_or, a1, a2]; rfl), Nat.zero_or]
  · obtain ⟨b1, b2, b3, _⟩ := hb ht
    simp only [if_true, List.foldl_cons, List.foldl_nil]
    rw [join_may a1 a2, join_may b1 b2, join_may may_zero (by rw [may_or, a1, a2]; rfl), Nat.zero_or, join_may (by rw [may_or, a1, a2]; rfl) (by rw [may_or, b1, b2]; rfl)]
theorem data_fold {j : JtL} (hm : mayJ j = true) : unF j datF = (twoL j).foldl (fun s c => joinF (joinF s c.v) c.l) 0 := by
  obtain ⟨a1, a2, a3, _⟩ := may_parts (mayJ_a hm)
  have hb := fun ht => may_parts (mayJ_b hm ht)
  unfold unF twoL datF
  cases ht : j.two
  · simp only [Bool.false_eq_true, if_false, List.foldl_cons, List.foldl_nil]
    rw [join_may may_zero a1, Nat.zero_or, join_may a1 a3]
  · obtain ⟨b1, b2, b3, _⟩ := hb ht
    have m1 : mayF (j.a.v ||| j.a.l) = true := by rw [may_or, a1, a3]; rfl
    simp only [if_true, List.foldl_cons, List.foldl_nil]
    rw [join_may may_zero a1, Nat.zero_or, join_may a1 a3, join_may m1 b1, join_may (by rw [may_or, m1, b1]; rfl) b3]
    simp only [Nat.or_assoc]
set_option maxHeartbeats 1000000 in
theorem voting_any (j : JtL) (w : World) (h : j.ok) (hm : mayJ j = true) : Calls Tryd.prog 45 #[jtV j] w fun e w' => e = .returned (.int .u16 ((unF j votF : Nat) : Int)) ∧ Below w.heap.size w w' := by
  have HK := Lib.hid (two_ok h)
  have CT := Lib.hid (fun w => two_any j w)
  have CV := Lib.hid (fun (c : CfL) (hc : c.ok) w => votes_any c w hc)
  have CJ := Lib.hid (fun (a b : Nat) (ha : a < 65536) (hb : b < 65536) w => ref9.join_any a b w ha hb)
  have HR : Hid (unF j votF = (twoL j).foldl (fun s c => joinF s (joinF c.v c.w)) 0) := votes_fold hm
  have HF := Lib.hid (fun i (c : CfL) (hc : (twoL j)[i]? = some c) => fold_more (L := twoL j) (fun s c => joinF s (joinF c.v c.w)) hc)
  have h2 := two_len j
  rw [HR.out]
  clear HR h
  generalize twoL j = L at *
  obtain ⟨k, hk⟩ : ∃ k, L.length = k := ⟨_, rfl⟩
  rw [hk] at CT h2
  unfold jtV at *
  obtain ⟨⟨av, aw, al, ae, ak⟩, ⟨bv, bw, bl, be, bk⟩, t⟩ := j
  dsimp only at *
  have hB0 := (Below.refl w.heap.size w).alloc (Nat.le_refl _) (.cells #[.int .u16 (av : Int), .int .u16 (aw : Int), .int .u16 (al : Int), .int .i64 ae, .int .i64 ak, .int .u16 (bv : Int), .int .u16 (bw : Int), .int .u16 (bl : Int), .int .i64 be, .int .i64 bk, .bool t] 43)
  go_enter Tryd.func45, Tryd.ntmps45
  go_wp2_with fail
  refine (CT.out _).mono ?_
  rintro e w2 ⟨p, rfl, hp, hB2, hA⟩
  have HA := Lib.hid hA
  have HB2 := Lib.hid (hB0.trans (hB2.mono hB0.size))
  clear hA hB0 hB2 CT
  go_wp2_with fail
  go_loopw [3, 5] (fun sv iv wr => ∃ i : Nat, i ≤ k ∧ iv = .int .i64 (i : Int) ∧ Below w2.heap.size w2 wr ∧ ∃ s : Nat, sv = .int .u16 (s : Int) ∧ s < 65536 ∧ Hid (s = (L.take i).foldl (fun s c => joinF s (joinF c.v c.w)) 0)) (fun _ iv _ => k - (intOf iv).toNat)
  case atStart => exact ⟨0, Nat.zero_le _, rfl, Below.refl _ _, 0, rfl, by omega, rfl⟩
  case round =>
    obtain ⟨i, hi, rfl, hBr, s, rfl, hs, HI⟩ := hrel
    by_cases hlt : i < k
    · obtain ⟨c, hc⟩ : ∃ c, L[i]? = some c := ⟨L[i]'(by omega), List.getElem?_eq_getElem _⟩
      have hok := HK.out c (List.mem_of_getElem? hc)
      have hA := HA.out i c hc
      have HC := Lib.hid hc
      clear hc
      have cV := Lib.hid (CV.out c hok)
      have cJ := Lib.hid (CJ.out s (joinF c.v c.w) hs (join_lt hok.1 hok.2.1))
      have hl := join_lt hs (join_lt hok.1 hok.2.1)
      have HS : Hid (∀ wq, Below wr.heap.size wr wq → (wq.cell? ⟨p, i * 5, none⟩ = some (.int .u16 (c.v : Int)) ∧ wq.cell? ⟨p, i * 5 + 1, none⟩ = some (.int .u16 (c.w : Int)) ∧ wq.cell? ⟨p, i * 5 + 2, none⟩ = some (.int .u16 (c.l : Int)) ∧ wq.cell? ⟨p, i * 5 + 3, none⟩ = some (.int .i64 c.e) ∧ wq.cell? ⟨p, i * 5 + 4, none⟩ = some (.int .i64 c.k))) := fun wq hq => at5 (hA.below hp (hBr.trans (hq.mono hBr.size)))
      clear hA
      unfold cfV at *
      obtain ⟨cv, cw, cl, ce, ck⟩ := c
      dsimp only at *
      have q0 := Below.refl wr.heap.size wr
      have r0 := HS.out _ q0
      go_wp2_with fail
      refine (cV.out _).mono ?_
      rintro e y1 ⟨rfl, hY1⟩
      have q1 := q0.trans (hY1.mono q0.size)
      have r1 := HS.out _ q1
      go_wp2_with fail
      refine (cJ.out _).mono ?_
      rintro e y2 ⟨rfl, rfl⟩
      go_wp2_with fail
      go_round
      case rel => exact ⟨i + 1, by omega, by go_num, hBr.trans (q1.mono hBr.size), _, rfl, hl, by show _ = _; rw [HF.out i _ HC.out, ← HI.out]⟩
      case measure => simp [intOf]; omega
    · obtain rfl : i = k := by omega
      have HV : Hid (s = L.foldl (fun s c => joinF s (joinF c.v c.w)) 0) := by show _ = _; rw [HI.out, ← hk, List.take_length]
      clear HI
      go_wp2_with fail
      go_ret
      exact ⟨ref9.ret_u16 (by rw [HV.out]), HB2.out.trans (hBr.mono HB2.out.size)⟩
set_option maxHeartbeats 1000000 in
theorem data_any (j : JtL) (w : World) (h : j.ok) (hm : mayJ j = true) : Calls Tryd.prog 46 #[jtV j] w fun e w' => e = .returned (.int .u16 ((unF j datF : Nat) : Int)) ∧ Below w.heap.size w w' := by
  have HK := Lib.hid (two_ok h)
  have CT := Lib.hid (fun w => two_any j w)
  have CV := Lib.hid (fun (c : CfL) (hc : c.ok) w => votes_any c w hc)
  have CJ := Lib.hid (fun (a b : Nat) (ha : a < 65536) (hb : b < 65536) w => ref9.join_any a b w ha hb)
  have HR : Hid (unF j datF = (twoL j).foldl (fun s c => joinF (joinF s c.v) c.l) 0) := data_fold hm
  have HF := Lib.hid (fun i (c : CfL) (hc : (twoL j)[i]? = some c) => fold_more (L := twoL j) (fun s c => joinF (joinF s c.v) c.l) hc)
  have h2 := two_len j
  rw [HR.out]
  clear HR h
  generalize twoL j = L at *
  obtain ⟨k, hk⟩ : ∃ k, L.length = k := ⟨_, rfl⟩
  rw [hk] at CT h2
  unfold jtV at *
  obtain ⟨⟨av, aw, al, ae, ak⟩, ⟨bv, bw, bl, be, bk⟩, t⟩ := j
  dsimp only at *
  have hB0 := (Below.refl w.heap.size w).alloc (Nat.le_refl _) (.cells #[.int .u16 (av : Int), .int .u16 (aw : Int), .int .u16 (al : Int), .int .i64 ae, .int .i64 ak, .int .u16 (bv : Int), .int .u16 (bw : Int), .int .u16 (bl : Int), .int .i64 be, .int .i64 bk, .bool t] 43)
  go_enter Tryd.func46, Tryd.ntmps46
  go_wp2_with fail
  refine (CT.out _).mono ?_
  rintro e w2 ⟨p, rfl, hp, hB2, hA⟩
  have HA := Lib.hid hA
  have HB2 := Lib.hid (hB0.trans (hB2.mono hB0.size))
  clear hA hB0 hB2 CT
  go_wp2_with fail
  go_loopw [3, 5] (fun sv iv wr => ∃ i : Nat, i ≤ k ∧ iv = .int .i64 (i : Int) ∧ Below w2.heap.size w2 wr ∧ ∃ s : Nat, sv = .int .u16 (s : Int) ∧ s < 65536 ∧ Hid (s = (L.take i).foldl (fun s c => joinF (joinF s c.v) c.l) 0)) (fun _ iv _ => k - (intOf iv).toNat)
  case atStart => exact ⟨0, Nat.zero_le _, rfl, Below.refl _ _, 0, rfl, by omega, rfl⟩
  case round =>
    obtain ⟨i, hi, rfl, hBr, s, rfl, hs, HI⟩ := hrel
    by_cases hlt : i < k
    · obtain ⟨c, hc⟩ : ∃ c, L[i]? = some c := ⟨L[i]'(by omega), List.getElem?_eq_getElem _⟩
      have hok := HK.out c (List.mem_of_getElem? hc)
      have hA := HA.out i c hc
      have HC := Lib.hid hc
      clear hc
      have cA := Lib.hid (CJ.out s c.v hs hok.1)
      have cB := Lib.hid (CJ.out (joinF s c.v) c.l (join_lt hs hok.1) hok.2.2.1)
      have hl := join_lt (join_lt hs hok.1) hok.2.2.1
      have HS : Hid (∀ wq, Below wr.heap.size wr wq → (wq.cell? ⟨p, i * 5, none⟩ = some (.int .u16 (c.v : Int)) ∧ wq.cell? ⟨p, i * 5 + 1, none⟩ = some (.int .u16 (c.w : Int)) ∧ wq.cell? ⟨p, i * 5 + 2, none⟩ = some (.int .u16 (c.l : Int)) ∧ wq.cell? ⟨p, i * 5 + 3, none⟩ = some (.int .i64 c.e) ∧ wq.cell? ⟨p, i * 5 + 4, none⟩ = some (.int .i64 c.k))) := fun wq hq => at5 (hA.below hp (hBr.trans (hq.mono hBr.size)))
      clear hA
      unfold cfV at *
      obtain ⟨cv, cw, cl, ce, ck⟩ := c
      dsimp only at *
      have q0 := Below.refl wr.heap.size wr
      have r0 := HS.out _ q0
      go_upto_region 6 with (fail)
      have q1 := q0.drew
      refine wp_region_held_drew (S := fun wq => (wq.cell? ⟨p, i * 5, none⟩ = some (.int .u16 (cv : Int)) ∧ wq.cell? ⟨p, i * 5 + 1, none⟩ = some (.int .u16 (cw : Int)) ∧ wq.cell? ⟨p, i * 5 + 2, none⟩ = some (.int .u16 (cl : Int)) ∧ wq.cell? ⟨p, i * 5 + 3, none⟩ = some (.int .i64 ce) ∧ wq.cell? ⟨p, i * 5 + 4, none⟩ = some (.int .i64 ck))) (by kernel_rfl) ?s_rdata6 (fun hHeld => ?_)
      case s_rdata6 => exact HS.out _ q1
      refine tk 0 { dst := some 14, op := .move (.tmp 3), type := 28, pos := "ref.go:61", after := #[], guard := none } _ ?_
      try simp only [Act.put, List.setIfInBounds_toArray, List.set_cons_zero, List.set_cons_succ]
      refine tk 1 { dst := some 15, op := .move (.tmp 4), type := 63, pos := "ref.go:61", after := #[], guard := none } _ ?_
      try simp only [Act.put, List.setIfInBounds_toArray, List.set_cons_zero, List.set_cons_succ]
      refine tk 2 { dst := some 16, op := .move (.tmp 5), type := 3, pos := "ref.go:61", after := #[], guard := none } _ ?_
      try simp only [Act.put, List.setIfInBounds_toArray, List.set_cons_zero, List.set_cons_succ]
      refine tk 3 { dst := some 17, op := .indexAddr 63 (.tmp 15) (.tmp 16), type := 0, pos := "ref.go:61", after := #[{ on := 1, ground := .data }, { on := 2, ground := .data }], guard := none } _ ?_
      try simp only [Act.put, List.setIfInBounds_toArray, List.set_cons_zero, List.set_cons_succ]
      refine tk 4 { dst := some 18, op := .fieldAddr 30 (.tmp 17) 0, type := 0, pos := "ref.go:61", after := #[{ on := 3, ground := .data }], guard := none } _ ?_
      try simp only [Act.put, List.setIfInBounds_toArray, List.set_cons_zero, List.set_cons_succ]
      refine tk 5 { dst := some 19, op := .load 28 (.tmp 18), type := 28, pos := "ref.go:61", after := #[{ on := 4, ground := .data }], guard := none } _ ?_
      try simp only [Act.put, List.setIfInBounds_toArray, List.set_cons_zero, List.set_cons_succ]
      refine tk 7 { dst := some 21, op := .move (.tmp 4), type := 63, pos := "ref.go:61", after := #[], guard := none } _ ?_
      try simp only [Act.put, List.setIfInBounds_toArray, List.set_cons_zero, List.set_cons_succ]
      refine tk 8 { dst := some 22, op := .move (.tmp 5), type := 3, pos := "ref.go:61", after := #[], guard := none } _ ?_
      try simp only [Act.put, List.setIfInBounds_toArray, List.set_cons_zero, List.set_cons_succ]
      refine tk 9 { dst := some 23, op := .indexAddr 63 (.tmp 21) (.tmp 22), type := 0, pos := "ref.go:61", after := #[{ on := 7, ground := .data }, { on := 8, ground := .data }], guard := none } _ ?_
      try simp only [Act.put, List.setIfInBounds_toArray, List.set_cons_zero, List.set_cons_succ]
      refine tk 10 { dst := some 24, op := .fieldAddr 30 (.tmp 23) 2, type := 0, pos := "ref.go:61", after := #[{ on := 9, ground := .data }], guard := none } _ ?_
      try simp only [Act.put, List.setIfInBounds_toArray, List.set_cons_zero, List.set_cons_succ]
      refine tk 11 { dst := some 25, op := .load 28 (.tmp 24), type := 28, pos := "ref.go:61", after := #[{ on := 10, ground := .data }], guard := none } _ ?_
      try simp only [Act.put, List.setIfInBounds_toArray, List.set_cons_zero, List.set_cons_succ]
      refine wpAnyH_ready (rs := [6]) (by kernel_rfl) (by simp) ?_
      refine AllReadyH.cons (o := { dst := some 20, op := .call { callee := .value (.func 44), args := #[.tmp 14, .tmp 19], argTypes := #[28, 28] }, type := 28, pos := "ref.go:61", after := #[{ on := 0, ground := .data }, { on := 5, ground := .data }], guard := none }) rfl (fun KQ hKQ => ?_) AllReadyH.nil
      go_simp
      refine (cA.out _).mono ?_
      rintro e y2 ⟨rfl, rfl⟩
      have r2 := HS.out _ q1
      go_wp2_with fail
      refine hKQ.out _ _ ?s_6 (fun hHeld6 => ?_)
      case s_6 => exact r2
      clear hKQ KQ
      try simp only [Act.put, List.setIfInBounds_toArray, List.set_cons_zero, List.set_cons_succ]
      refine wpAnyH_ready (rs := [12]) (by kernel_rfl) (by simp) ?_
      refine AllReadyH.cons (o := { dst := some 26, op := .call { callee := .value (.func 44), args := #[.tmp 20, .tmp 25], argTypes := #[28, 28] }, type := 28, pos := "ref.go:61", after := #[{ on := 6, ground := .data }, { on := 11, ground := .data }, { on := 6, ground := .chain }], guard := none }) rfl (fun KQ hKQ => ?_) AllReadyH.nil
      go_simp
      refine (cB.out _).mono ?_
      rintro e y3 ⟨rfl, rfl⟩
      have r3 := HS.out _ q1
      go_wp2_with fail
      refine hKQ.out _ _ ?s_12 (fun hHeld12 => ?_)
      case s_12 => exact r3
      clear hKQ KQ
      try simp only [Act.put, List.setIfInBounds_toArray, List.set_cons_zero, List.set_cons_succ]
      refine tk 13 { dst := some 3, op := .assign (.tmp 26), type := 28, pos := "ref.go:61", after := #[{ on := 12, ground := .data }, { on := 12, ground := .chain }, { on := 0, ground := .phase }, { on := 1, ground := .phase }, { on := 2, ground := .phase }, { on := 3, ground := .phase }, { on := 4, ground := .phase }, { on := 5, ground := .phase }, { on := 6, ground := .phase }, { on := 7, ground := .phase }, { on := 8, ground := .phase }, { on := 9, ground := .phase }, { on := 10, ground := .phase }, { on := 11, ground := .phase }, { on := 12, ground := .phase }], guard := none } _ ?_
      try simp only [Act.put, List.setIfInBounds_toArray, List.set_cons_zero, List.set_cons_succ]
      refine wpAnyH_done (by kernel_rfl) ?_ _
      go_wp2_with fail
      go_round
      case rel => exact ⟨i + 1, by omega, by go_num, hBr.trans (q1.mono hBr.size), _, rfl, hl, by show _ = _; rw [HF.out i _ HC.out, ← HI.out]⟩
      case measure => simp [intOf]; omega
    · obtain rfl : i = k := by omega
      have HV : Hid (s = L.foldl (fun s c => joinF (joinF s c.v) c.l) 0) := by show _ = _; rw [HI.out, ← hk, List.take_length]
      clear HI
      go_wp2_with fail
      go_ret
      exact ⟨ref9.ret_u16 (by rw [HV.out]), HB2.out.trans (hBr.mono HB2.out.size)⟩
theorem members_join {j : JtL} (hm : mayJ j = true) : unF j memF = joinF (unF j votF) (unF j datF) := by
  have ha := may_parts (mayJ_a hm)
  have hb := fun ht => may_parts (mayJ_b hm ht)
  obtain ⟨a1, a2, a3, _⟩ := ha
  have bits : ∀ v x l : Nat, v ||| x ||| l = (v ||| x) ||| (v ||| l) := fun v x l => by
    apply Nat.eq_of_testBit_eq
    intro i
    simp only [Nat.testBit_or]
    cases v.testBit i <;> cases x.testBit i <;> simp
  have bits2 : ∀ v x l p q r : Nat, (v ||| x ||| l) ||| (p ||| q ||| r) = ((v ||| x) ||| (p ||| q)) ||| ((v ||| l) ||| (p ||| r)) := fun v x l p q r => by
    apply Nat.eq_of_testBit_eq
    intro i
    simp only [Nat.testBit_or]
    cases v.testBit i <;> cases x.testBit i <;> cases l.testBit i <;> cases p.testBit i <;> cases q.testBit i <;> simp
  unfold unF memF votF datF
  cases ht : j.two
  · simp only [Bool.false_eq_true, if_false]
    rw [join_may (by rw [may_or, a1, a2]; rfl) (by rw [may_or, a1, a3]; rfl)]
    exact bits _ _ _
  · obtain ⟨b1, b2, b3, _⟩ := hb ht
    simp only [if_true]
    rw [join_may (by simp [may_or, a1, a2, b1, b2]) (by simp [may_or, a1, a3, b1, b3])]
    exact bits2 _ _ _ _ _ _
theorem members_any (j : JtL) (w : World) (h : j.ok) (hm : mayJ j = true) : Calls Tryd.prog 22 #[jtV j] w fun e w' => e = .returned (.int .u16 ((unF j memF : Nat) : Int)) ∧ Below w.heap.size w w' := by
  have CV := Lib.hid (fun w => voting_any j w h hm)
  have CD := Lib.hid (fun w => data_any j w h hm)
  have hv : unF j votF < 65536 := un_lt (vot_lt h.1) (vot_lt h.2)
  have hd : unF j datF < 65536 := un_lt (dat_lt h.1) (dat_lt h.2)
  have CJ := Lib.hid (fun w => ref9.join_any (unF j votF) (unF j datF) w hv hd)
  have HR := Lib.hid (members_join hm)
  rw [HR.out]
  generalize unF j votF = sv at *
  generalize unF j datF = sd at *
  unfold jtV at *
  clear HR h hm
  obtain ⟨⟨av, aw, al, ae, ak⟩, ⟨bv, bw, bl, be, bk⟩, t⟩ := j
  dsimp only at *
  have k0 : Blk 43 (w.alloc (.cells #[.int .u16 (av : Int), .int .u16 (aw : Int), .int .u16 (al : Int), .int .i64 ae, .int .i64 ak, .int .u16 (bv : Int), .int .u16 (bw : Int), .int .u16 (bl : Int), .int .i64 be, .int .i64 bk, .bool t] 43)) w.heap.size [.int .u16 (av : Int), .int .u16 (aw : Int), .int .u16 (al : Int), .int .i64 ae, .int .i64 ak, .int .u16 (bv : Int), .int .u16 (bw : Int), .int .u16 (bl : Int), .int .i64 be, .int .i64 bk, .bool t] := heap_alloc_new w _
  have HB := Lib.hid ((Below.refl w.heap.size w).alloc (Nat.le_refl _) (.cells #[.int .u16 (av : Int), .int .u16 (aw : Int), .int .u16 (al : Int), .int .i64 ae, .int .i64 ak, .int .u16 (bv : Int), .int .u16 (bw : Int), .int .u16 (bl : Int), .int .i64 be, .int .i64 bk, .bool t] 43))
  have HS : Hid (∀ wq, Below (w.alloc (.cells #[.int .u16 (av : Int), .int .u16 (aw : Int), .int .u16 (al : Int), .int .i64 ae, .int .i64 ak, .int .u16 (bv : Int), .int .u16 (bw : Int), .int .u16 (bl : Int), .int .i64 be, .int .i64 bk, .bool t] 43)).heap.size (w.alloc (.cells #[.int .u16 (av : Int), .int .u16 (aw : Int), .int .u16 (al : Int), .int .i64 ae, .int .i64 ak, .int .u16 (bv : Int), .int .u16 (bw : Int), .int .u16 (bl : Int), .int .i64 be, .int .i64 bk, .bool t] 43)) wq → (wq.cell? ⟨w.heap.size, 0, none⟩ = some (.int .u16 (av : Int)) ∧ wq.cell? ⟨w.heap.size, 1, none⟩ = some (.int .u16 (aw : Int)) ∧ wq.cell? ⟨w.heap.size, 2, none⟩ = some (.int .u16 (al : Int)) ∧ wq.cell? ⟨w.heap.size, 3, none⟩ = some (.int .i64 ae) ∧ wq.cell? ⟨w.heap.size, 4, none⟩ = some (.int .i64 ak) ∧ wq.cell? ⟨w.heap.size, 5, none⟩ = some (.int .u16 (bv : Int)) ∧ wq.cell? ⟨w.heap.size, 6, none⟩ = some (.int .u16 (bw : Int)) ∧ wq.cell? ⟨w.heap.size, 7, none⟩ = some (.int .u16 (bl : Int)) ∧ wq.cell? ⟨w.heap.size, 8, none⟩ = some (.int .i64 be) ∧ wq.cell? ⟨w.heap.size, 9, none⟩ = some (.int .i64 bk) ∧ wq.cell? ⟨w.heap.size, 10, none⟩ = some (.bool t))) := fun wq hq => blk11 (k0.below hq k0.lt)
  have q0 := Below.refl (w.alloc (.cells #[.int .u16 (av : Int), .int .u16 (aw : Int), .int .u16 (al : Int), .int .i64 ae, .int .i64 ak, .int .u16 (bv : Int), .int .u16 (bw : Int), .int .u16 (bl : Int), .int .i64 be, .int .i64 bk, .bool t] 43)).heap.size (w.alloc (.cells #[.int .u16 (av : Int), .int .u16 (aw : Int), .int .u16 (al : Int), .int .i64 ae, .int .i64 ak, .int .u16 (bv : Int), .int .u16 (bw : Int), .int .u16 (bl : Int), .int .i64 be, .int .i64 bk, .bool t] 43))
  clear k0
  go_enter Tryd.func22, Tryd.ntmps22
  go_upto_region 1 with (fail)
  generalize (w.alloc (.cells #[.int .u16 (av : Int), .int .u16 (aw : Int), .int .u16 (al : Int), .int .i64 ae, .int .i64 ak, .int .u16 (bv : Int), .int .u16 (bw : Int), .int .u16 (bl : Int), .int .i64 be, .int .i64 bk, .bool t] 43)) = w1 at *
  have q1 := q0.drew
  refine wp_region_held_drew (S := fun wq => (wq.cell? ⟨w.heap.size, 0, none⟩ = some (.int .u16 (av : Int)) ∧ wq.cell? ⟨w.heap.size, 1, none⟩ = some (.int .u16 (aw : Int)) ∧ wq.cell? ⟨w.heap.size, 2, none⟩ = some (.int .u16 (al : Int)) ∧ wq.cell? ⟨w.heap.size, 3, none⟩ = some (.int .i64 ae) ∧ wq.cell? ⟨w.heap.size, 4, none⟩ = some (.int .i64 ak) ∧ wq.cell? ⟨w.heap.size, 5, none⟩ = some (.int .u16 (bv : Int)) ∧ wq.cell? ⟨w.heap.size, 6, none⟩ = some (.int .u16 (bw : Int)) ∧ wq.cell? ⟨w.heap.size, 7, none⟩ = some (.int .u16 (bl : Int)) ∧ wq.cell? ⟨w.heap.size, 8, none⟩ = some (.int .i64 be) ∧ wq.cell? ⟨w.heap.size, 9, none⟩ = some (.int .i64 bk) ∧ wq.cell? ⟨w.heap.size, 10, none⟩ = some (.bool t))) (by kernel_rfl) ?s_rmem1 (fun hHeld => ?_)
  case s_rmem1 => exact HS.out _ q1
  refine tk 0 { dst := some 3, op := .load 43 (.tmp 1), type := 43, pos := "ref.go:66", after := #[], guard := none } _ ?_
  try simp only [Act.put, List.setIfInBounds_toArray, List.set_cons_zero, List.set_cons_succ]
  refine tk 2 { dst := some 5, op := .load 43 (.tmp 1), type := 43, pos := "ref.go:66", after := #[], guard := none } _ ?_
  try simp only [Act.put, List.setIfInBounds_toArray, List.set_cons_zero, List.set_cons_succ]
  refine wpAnyH_ready (rs := [1]) (by kernel_rfl) (by simp) ?_
  refine AllReadyH.cons (o := { dst := some 4, op := .call { callee := .value (.func 45), args := #[.tmp 3], argTypes := #[43] }, type := 28, pos := "ref.go:66", after := #[{ on := 0, ground := .data }], guard := none }) rfl (fun KQ hKQ => ?_) AllReadyH.nil
  go_simp
  refine (CV.out _).mono ?_
  rintro e y2 ⟨rfl, hY2⟩
  have q2 := q1.trans (hY2.mono q1.size)
  have r2 := HS.out _ q2
  go_wp2_with fail
  refine hKQ.out _ _ ?s_1 (fun hHeld1 => ?_)
  case s_1 => exact r2
  clear hKQ KQ
  try simp only [Act.put, List.setIfInBounds_toArray, List.set_cons_zero, List.set_cons_succ]
  refine wpAnyH_ready (rs := [3]) (by kernel_rfl) (by simp) ?_
  refine AllReadyH.cons (o := { dst := some 6, op := .call { callee := .value (.func 46), args := #[.tmp 5], argTypes := #[43] }, type := 28, pos := "ref.go:66", after := #[{ on := 2, ground := .data }, { on := 1, ground := .chain }], guard := none }) rfl (fun KQ hKQ => ?_) AllReadyH.nil
  go_simp
  refine (CD.out _).mono ?_
  rintro e y3 ⟨rfl, hY3⟩
  have q3 := q2.trans (hY3.mono q2.size)
  have r3 := HS.out _ q3
  go_wp2_with fail
  refine hKQ.out _ _ ?s_3 (fun hHeld3 => ?_)
  case s_3 => exact r3
  clear hKQ KQ
  try simp only [Act.put, List.setIfInBounds_toArray, List.set_cons_zero, List.set_cons_succ]
  refine wpAnyH_ready (rs := [4]) (by kernel_rfl) (by simp) ?_
  refine AllReadyH.cons (o := { dst := some 7, op := .call { callee := .value (.func 44), args := #[.tmp 4, .tmp 6], argTypes := #[28, 28] }, type := 28, pos := "ref.go:66", after := #[{ on := 1, ground := .data }, { on := 3, ground := .data }, { on := 3, ground := .chain }], guard := none }) rfl (fun KQ hKQ => ?_) AllReadyH.nil
  go_simp
  refine (CJ.out _).mono ?_
  rintro e y4 ⟨rfl, rfl⟩
  have r4 := HS.out _ q3
  go_wp2_with fail
  refine hKQ.out _ _ ?s_4 (fun hHeld4 => ?_)
  case s_4 => exact r4
  clear hKQ KQ
  try simp only [Act.put, List.setIfInBounds_toArray, List.set_cons_zero, List.set_cons_succ]
  refine tk 5 { dst := some 2, op := .assign (.tmp 7), type := 28, pos := "ref.go:66", after := #[{ on := 4, ground := .data }, { on := 4, ground := .chain }, { on := 0, ground := .phase }, { on := 1, ground := .phase }, { on := 2, ground := .phase }, { on := 3, ground := .phase }, { on := 4, ground := .phase }], guard := none } _ ?_
  try simp only [Act.put, List.setIfInBounds_toArray, List.set_cons_zero, List.set_cons_succ]
  refine wpAnyH_done (by kernel_rfl) ?_ _
  go_wp2_with fail
  go_ret
  exact ⟨rfl, HB.out.trans (q3.mono HB.out.size)⟩
theorem led_any (j : JtL) (n : Int) : ledF j n = !((twoL j).all fun c => !hasF c.v n) := by
  unfold ledF unF twoL
  cases j.two
  · simp
  · simp [has_or]
end Go.Proofs.YtfcljdpjjabhjaaDoor.ref10
