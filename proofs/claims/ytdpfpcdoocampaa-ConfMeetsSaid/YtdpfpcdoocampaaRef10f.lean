/- What the document's answer to conf (antipoderef10) tells of quorums, all of them, one by one. Conditions: sets are uint16 values, numbers int. -/
import Derived.Test.YtdpfpcdoocampaaRef10
namespace Go.Proofs.Ytdpfpcdoocampaa.ref10
open Go Go.RowKit Go.Proofs.Ytdpfpcdoocampaa.kit Go.Proofs.Ytdpfpcdoocampaa.nums Go.Proofs.Ytdpfpcdoocampaa.se Go.Proofs.Ytdpfpcdoocampaa.cf
set_option linter.unusedVariables false

theorem quos_take {L : List Nat} {f : Nat → Bool} {i x : Nat} (h : L[i]? = some x) : (L.take (i + 1)).filter f = if f x = true then (L.take i).filter f ++ [x] else (L.take i).filter f := by
  obtain ⟨hi, rfl⟩ := List.getElem?_eq_some_iff.1 h
  rw [List.take_succ_eq_append_getElem hi, List.filter_append]
  split <;> rename_i hf
  · rw [List.filter_cons_of_pos hf]; rfl
  · rw [List.filter_cons_of_neg hf]; simp
set_option maxRecDepth 10000 in
set_option maxHeartbeats 2000000 in
theorem quorums_any (s : Nat) (q : Int) (w : World) (hs : s < 65536) (h0 : -9223372036854775808 ≤ q) (h1 : q ≤ 9223372036854775807) : Calls Try.prog 55 #[.int .u16 (s : Int), .int .i64 q] w (ref9.IsUs w (quosF s q)) := by
  have CS := Lib.hid (ref9.subsets_any s w hs)
  have CC := Lib.hid (fun (x : Nat) (hx : x < 1024) w => ref9.count_any x w (by omega))
  have HX : Hid (∀ x ∈ subsF s 1024, x < 1024) := fun x hx => subs_lt hx
  have hk := subs_len s 1024
  unfold ref9.IsUs quosF at *
  generalize subsF s 1024 = L at *
  obtain ⟨k, hL⟩ : ∃ k, L.length = k := ⟨_, rfl⟩
  rw [hL] at CS hk
  go_enter Try.func55, Try.ntmps55
  go_wp2_with fail
  refine CS.out.mono ?_
  rintro e w2 ⟨A0, c0, rfl, hO0, hB0⟩
  have HA := Lib.hid (fun j hj => ref9.own_u16 (W := w) hO0 hL j hj)
  have HL := Lib.hid hL
  clear hO0 CS hL
  go_wp2_with fail
  go_loopw [5, 7] (fun ov iv wr => ∃ (i m : Nat) (A : Option Addr) (c : Nat), i ≤ k ∧ m ≤ i ∧ iv = .int .i64 (i : Int) ∧ ov = .slice A m c ∧ Hid (((L.take i).filter fun x => decide ((cntF x : Int) = q)).length = m) ∧ OwnV 23 wr w2.heap.size (.slice A m c) (u16s ((L.take i).filter fun x => decide ((cntF x : Int) = q))) ∧ Below w2.heap.size w2 wr) (fun _ iv _ => k - (intOf iv).toNat)
  case atStart => exact ⟨0, 0, none, 0, by omega, by omega, rfl, rfl, rfl, OwnV.nil _ _ _, Below.refl _ _⟩
  case round =>
    obtain ⟨i, m, A, c, hi, hm, rfl, rfl, HM, hO, hBr⟩ := hrel
    have hsz := hBr.size
    by_cases hlt : i < k
    · obtain ⟨p, f, x, rfl, hp, hx, hc⟩ := HA.out i hlt
      have HCE : Hid (∀ wq, Below wr.heap.size wr wq → wq.cell? ⟨p, f + i, none⟩ = some (.int .u16 (x : Int))) := fun wq hq => ((hBr.trans (hq.mono hsz)).cell (p := ⟨p, f + i, none⟩) hp).trans hc
      have c0 := HCE.out wr (Below.refl _ _)
      have HN := Lib.hid (quos_take (f := fun x => decide ((cntF x : Int) = q)) hx)
      have hC := Lib.hid (CC.out x (HX.out x (List.mem_of_getElem? hx)))
      have hln : (u16s ((L.take i).filter fun x => decide ((cntF x : Int) = q))).length = m := by rw [u16s_length]; exact HM.out
      obtain ⟨xs, hxs⟩ : ∃ xs, u16s ((L.take i).filter fun x => decide ((cntF x : Int) = q)) = xs := ⟨_, rfl⟩
      rw [hxs] at hO hln
      have HXS := Lib.hid hxs
      have HO := Lib.hid hO
      have hn9 := cntF_le x
      clear hxs hx hc hO
      by_cases hq : (cntF x : Int) = q
      · rw [decide_eq_true hq] at HN
        have HQ := Lib.hid hq
        clear hq
        go_wp2_with fail
        refine (hC.out _).mono ?_
        rintro e w3 ⟨rfl, hB3⟩
        have hq := HQ.out
        have hB4 := hBr.trans (hB3.mono hsz)
        have hsz4 := hB4.size
        have c1 := HCE.out w3 hB3
        have hO2 := (HO.out.below hB3).alloc (.cells #[.int .u16 (x : Int)] 23)
        have hB5 := hB4.alloc hsz4 (.cells #[.int .u16 (x : Int)] 23)
        have HB5 := Lib.hid hB5
        have HO2 := Lib.hid hO2
        clear hB5 hO2 hB4 hB3
        go_wp2_with (at_builtin; with_reducible refine wpList_append_v rfl (.tmp 23) (.tmp 28) 57 rfl w2.heap.size 23 (.int .u16 0) 2 Try.underlying57 ref9.infoU rfl A m c xs hln rfl HO2.out _ _ 1 1 [_] rfl (RdV.one _ _ _) ?k1 ?k2 ?k3 ?k4 ?_)
        case k1 => intro u hu; rw [List.mem_singleton] at hu; subst hu; rfl
        case k2 => omega
        case k3 => unfold maxLen; omega
        case k4 => simp; omega
        intro A3 c3 w4 hO3 hB6 _
        have hB7 := HB5.out.trans hB6
        clear hB6
        go_wp2_with fail
        go_round
        case rel => exact ⟨i + 1, m + 1, A3, c3, by omega, by omega, by go_num, rfl, by show _ = _; rw [HN.out, if_pos trivial, List.length_append, HM.out]; rfl, by rw [HN.out, if_pos trivial, u16s_append, HXS.out]; exact hO3, hB7⟩
        case measure => simp [intOf]; omega
      · rw [decide_eq_false hq] at HN
        have HQ := Lib.hid hq
        clear hq
        go_wp2_with fail
        refine (hC.out _).mono ?_
        rintro e w3 ⟨rfl, hB3⟩
        have hq := HQ.out
        go_wp2_with fail
        go_round
        case rel => exact ⟨i + 1, m, A, c, by omega, by omega, by go_num, rfl, by show _ = _; rw [HN.out]; exact HM.out, by rw [HN.out]; simp only [Bool.false_eq_true, if_false]; rw [HXS.out]; exact HO.out.below hB3, hBr.trans (hB3.mono hsz)⟩
        case measure => simp [intOf]; omega
    · obtain rfl : i = k := by omega
      have HT : L.take i = L := by rw [← HL.out, List.take_length]
      rw [HT] at HM hO
      clear HT
      have HO := Lib.hid (hO.more hB0.size)
      clear hO
      go_wp2_with fail
      go_ret
      rw [HM.out]
      exact ⟨A, c, rfl, HO.out, hB0.trans (hBr.mono hB0.size)⟩
theorem nat_good {L : List Nat} {P : Nat → Bool} {k : Nat} (h : ∀ c ∈ L.take k, P c = true) (hk : L.length = k) : L.all P = true := by
  rw [List.all_eq_true]; intro c hc; exact h c (by rw [← hk, List.take_length]; exact hc)
theorem nat_more {L : List Nat} {P : Nat → Bool} {c i : Nat} (h : ∀ c ∈ L.take i, P c = true) (hc : L[i]? = some c) (hP : P c = true) : ∀ c ∈ L.take (i + 1), P c = true := by
  obtain ⟨hi, rfl⟩ := List.getElem?_eq_some_iff.1 hc
  rw [List.take_succ_eq_append_getElem hi]
  intro x hx
  rcases List.mem_append.1 hx with hx | hx
  · exact h x hx
  · rw [List.mem_singleton] at hx; subst hx; exact hP
theorem meetR_false {xs ys : List Nat} {i k x y : Nat} (hx : xs[i]? = some x) (hy : ys[k]? = some y) (h : meetF x y = 0) : meetR xs ys = false := by
  unfold meetR
  rw [List.all_eq_false]
  refine ⟨x, List.mem_of_getElem? hx, ?_⟩
  rw [Bool.not_eq_true, List.all_eq_false]
  exact ⟨y, List.mem_of_getElem? hy, by simp [h]⟩
set_option maxHeartbeats 2000000 in
theorem meet_any (a b : CfL) (w : World) (ha : a.ok) (hb : b.ok) : Calls Try.prog 32 #[cfV a, cfV b] w fun e w' => e = .returned (.bool (meetR (quosF (joinF a.v a.w) a.e) (quosF (joinF b.v b.w) b.k))) ∧ Below w.heap.size w w' := by
  have CA := Lib.hid (fun w => votes_any a w ha)
  have CB := Lib.hid (fun w => votes_any b w hb)
  have QA := Lib.hid (fun w => quorums_any (joinF a.v a.w) a.e w (join_lt ha.1 ha.2.1) ha.2.2.2.1.1 ha.2.2.2.1.2)
  have QB := Lib.hid (fun w => quorums_any (joinF b.v b.w) b.k w (join_lt hb.1 hb.2.1) hb.2.2.2.2.1 hb.2.2.2.2.2)
  have HXL : Hid (∀ x ∈ quosF (joinF a.v a.w) a.e, x < 65536) := fun x hx => by have := quos_lt hx; omega
  have HYL : Hid (∀ x ∈ quosF (joinF b.v b.w) b.k, x < 65536) := fun x hx => by have := quos_lt hx; omega
  have CM := Lib.hid (fun (x y : Nat) (hx : x < 65536) (hy : y < 65536) w => ref9.meet_any x y w hx hy)
  have lx : (quosF (joinF a.v a.w) a.e).length ≤ 1024 := Nat.le_trans (List.length_filter_le _ _) (subs_len _ _)
  have ly : (quosF (joinF b.v b.w) b.k).length ≤ 1024 := Nat.le_trans (List.length_filter_le _ _) (subs_len _ _)
  unfold ref9.IsUs at *
  generalize quosF (joinF a.v a.w) a.e = xs at *
  generalize quosF (joinF b.v b.w) b.k = ys at *
  generalize joinF a.v a.w = sa at *
  generalize joinF b.v b.w = sb at *
  clear ha hb
  obtain ⟨n, hn⟩ : ∃ n, xs.length = n := ⟨_, rfl⟩
  obtain ⟨m, hm⟩ : ∃ m, ys.length = m := ⟨_, rfl⟩
  rw [hn] at QA lx
  rw [hm] at QB ly
  have HNL := Lib.hid hn
  have HML := Lib.hid hm
  clear hn hm
  unfold cfV at *
  obtain ⟨av, aw, al, ae, ak⟩ := a
  obtain ⟨bv, bw, bl, be, bk⟩ := b
  dsimp only at *
  have k0 : Blk 25 ((w.alloc (.cells #[.int .u16 (av : Int), .int .u16 (aw : Int), .int .u16 (al : Int), .int .i64 ae, .int .i64 ak] 25)).alloc (.cells #[.int .u16 (bv : Int), .int .u16 (bw : Int), .int .u16 (bl : Int), .int .i64 be, .int .i64 bk] 25)) w.heap.size [.int .u16 (av : Int), .int .u16 (aw : Int), .int .u16 (al : Int), .int .i64 ae, .int .i64 ak] := Blk.alloc (heap_alloc_new w _) _
  have k1 : Blk 25 ((w.alloc (.cells #[.int .u16 (av : Int), .int .u16 (aw : Int), .int .u16 (al : Int), .int .i64 ae, .int .i64 ak] 25)).alloc (.cells #[.int .u16 (bv : Int), .int .u16 (bw : Int), .int .u16 (bl : Int), .int .i64 be, .int .i64 bk] 25)) (w.heap.size + 1) [.int .u16 (bv : Int), .int .u16 (bw : Int), .int .u16 (bl : Int), .int .i64 be, .int .i64 bk] := by have := heap_alloc_new (w.alloc (.cells #[.int .u16 (av : Int), .int .u16 (aw : Int), .int .u16 (al : Int), .int .i64 ae, .int .i64 ak] 25)) (.cells #[.int .u16 (bv : Int), .int .u16 (bw : Int), .int .u16 (bl : Int), .int .i64 be, .int .i64 bk] 25); rwa [show (w.alloc (.cells #[.int .u16 (av : Int), .int .u16 (aw : Int), .int .u16 (al : Int), .int .i64 ae, .int .i64 ak] 25)).heap.size = w.heap.size + 1 by simp] at this
  have HB := Lib.hid (((Below.refl w.heap.size w).alloc (Nat.le_refl _) (.cells #[.int .u16 (av : Int), .int .u16 (aw : Int), .int .u16 (al : Int), .int .i64 ae, .int .i64 ak] 25)).alloc (by simp) (.cells #[.int .u16 (bv : Int), .int .u16 (bw : Int), .int .u16 (bl : Int), .int .i64 be, .int .i64 bk] 25))
  have HS : Hid (∀ wq, Below ((w.alloc (.cells #[.int .u16 (av : Int), .int .u16 (aw : Int), .int .u16 (al : Int), .int .i64 ae, .int .i64 ak] 25)).alloc (.cells #[.int .u16 (bv : Int), .int .u16 (bw : Int), .int .u16 (bl : Int), .int .i64 be, .int .i64 bk] 25)).heap.size ((w.alloc (.cells #[.int .u16 (av : Int), .int .u16 (aw : Int), .int .u16 (al : Int), .int .i64 ae, .int .i64 ak] 25)).alloc (.cells #[.int .u16 (bv : Int), .int .u16 (bw : Int), .int .u16 (bl : Int), .int .i64 be, .int .i64 bk] 25)) wq → (wq.cell? ⟨w.heap.size, 0, none⟩ = some (.int .u16 (av : Int)) ∧ wq.cell? ⟨w.heap.size, 1, none⟩ = some (.int .u16 (aw : Int)) ∧ wq.cell? ⟨w.heap.size, 2, none⟩ = some (.int .u16 (al : Int)) ∧ wq.cell? ⟨w.heap.size, 3, none⟩ = some (.int .i64 ae) ∧ wq.cell? ⟨w.heap.size, 4, none⟩ = some (.int .i64 ak)) ∧ (wq.cell? ⟨w.heap.size + 1, 0, none⟩ = some (.int .u16 (bv : Int)) ∧ wq.cell? ⟨w.heap.size + 1, 1, none⟩ = some (.int .u16 (bw : Int)) ∧ wq.cell? ⟨w.heap.size + 1, 2, none⟩ = some (.int .u16 (bl : Int)) ∧ wq.cell? ⟨w.heap.size + 1, 3, none⟩ = some (.int .i64 be) ∧ wq.cell? ⟨w.heap.size + 1, 4, none⟩ = some (.int .i64 bk))) := fun wq hq => ⟨blk5 (k0.below hq k0.lt), blk5 (k1.below hq k1.lt)⟩
  have q0 := Below.refl ((w.alloc (.cells #[.int .u16 (av : Int), .int .u16 (aw : Int), .int .u16 (al : Int), .int .i64 ae, .int .i64 ak] 25)).alloc (.cells #[.int .u16 (bv : Int), .int .u16 (bw : Int), .int .u16 (bl : Int), .int .i64 be, .int .i64 bk] 25)).heap.size ((w.alloc (.cells #[.int .u16 (av : Int), .int .u16 (aw : Int), .int .u16 (al : Int), .int .i64 ae, .int .i64 ak] 25)).alloc (.cells #[.int .u16 (bv : Int), .int .u16 (bw : Int), .int .u16 (bl : Int), .int .i64 be, .int .i64 bk] 25))
  clear k0 k1
  go_enter Try.func32, Try.ntmps32
  go_upto_region 1 with (fail)
  generalize ((w.alloc (.cells #[.int .u16 (av : Int), .int .u16 (aw : Int), .int .u16 (al : Int), .int .i64 ae, .int .i64 ak] 25)).alloc (.cells #[.int .u16 (bv : Int), .int .u16 (bw : Int), .int .u16 (bl : Int), .int .i64 be, .int .i64 bk] 25)) = w1 at *
  have r0 := HS.out _ q0
  have q1 := q0.drew
  refine wp_region_held_drew (S := fun wq => (wq.cell? ⟨w.heap.size, 0, none⟩ = some (.int .u16 (av : Int)) ∧ wq.cell? ⟨w.heap.size, 1, none⟩ = some (.int .u16 (aw : Int)) ∧ wq.cell? ⟨w.heap.size, 2, none⟩ = some (.int .u16 (al : Int)) ∧ wq.cell? ⟨w.heap.size, 3, none⟩ = some (.int .i64 ae) ∧ wq.cell? ⟨w.heap.size, 4, none⟩ = some (.int .i64 ak)) ∧ (wq.cell? ⟨w.heap.size + 1, 0, none⟩ = some (.int .u16 (bv : Int)) ∧ wq.cell? ⟨w.heap.size + 1, 1, none⟩ = some (.int .u16 (bw : Int)) ∧ wq.cell? ⟨w.heap.size + 1, 2, none⟩ = some (.int .u16 (bl : Int)) ∧ wq.cell? ⟨w.heap.size + 1, 3, none⟩ = some (.int .i64 be) ∧ wq.cell? ⟨w.heap.size + 1, 4, none⟩ = some (.int .i64 bk))) (by kernel_rfl) ?s_rmeet1 (fun hHeld => ?_)
  case s_rmeet1 => exact HS.out _ q1
  refine tk 0 { dst := some 9, op := .load 25 (.tmp 2), type := 25, pos := "ref.go:114", after := #[], guard := none } _ ?_
  try simp only [Act.put, List.setIfInBounds_toArray, List.set_cons_zero, List.set_cons_succ]
  refine tk 2 { dst := some 11, op := .fieldAddr 25 (.tmp 2) 3, type := 0, pos := "ref.go:114", after := #[], guard := none } _ ?_
  try simp only [Act.put, List.setIfInBounds_toArray, List.set_cons_zero, List.set_cons_succ]
  refine tk 3 { dst := some 12, op := .load 3 (.tmp 11), type := 3, pos := "ref.go:114", after := #[{ on := 2, ground := .data }], guard := none } _ ?_
  try simp only [Act.put, List.setIfInBounds_toArray, List.set_cons_zero, List.set_cons_succ]
  refine tk 5 { dst := some 14, op := .load 25 (.tmp 3), type := 25, pos := "ref.go:114", after := #[], guard := none } _ ?_
  try simp only [Act.put, List.setIfInBounds_toArray, List.set_cons_zero, List.set_cons_succ]
  refine tk 7 { dst := some 16, op := .fieldAddr 25 (.tmp 3) 4, type := 0, pos := "ref.go:114", after := #[], guard := none } _ ?_
  try simp only [Act.put, List.setIfInBounds_toArray, List.set_cons_zero, List.set_cons_succ]
  refine tk 8 { dst := some 17, op := .load 3 (.tmp 16), type := 3, pos := "ref.go:114", after := #[{ on := 7, ground := .data }], guard := none } _ ?_
  try simp only [Act.put, List.setIfInBounds_toArray, List.set_cons_zero, List.set_cons_succ]
  refine wpAnyH_ready (rs := [1]) (by kernel_rfl) (by simp) ?_
  refine AllReadyH.cons (o := { dst := some 10, op := .call { callee := .value (.func 44), args := #[.tmp 9], argTypes := #[25] }, type := 23, pos := "ref.go:114", after := #[{ on := 0, ground := .data }], guard := none }) rfl (fun KQ hKQ => ?_) AllReadyH.nil
  go_simp
  refine (CA.out _).mono ?_
  rintro e y2 ⟨rfl, hY2⟩
  have q2 := q1.trans (hY2.mono q1.size)
  have r2 := HS.out _ q2
  go_wp2_with fail
  refine hKQ.out _ _ ?s_1 (fun hHeld1 => ?_)
  case s_1 => exact r2
  clear hKQ KQ
  try simp only [Act.put, List.setIfInBounds_toArray, List.set_cons_zero, List.set_cons_succ]
  refine wpAnyH_ready (rs := [4]) (by kernel_rfl) (by simp) ?_
  refine AllReadyH.cons (o := { dst := some 13, op := .call { callee := .value (.func 55), args := #[.tmp 10, .tmp 12], argTypes := #[23, 3] }, type := 57, pos := "ref.go:114", after := #[{ on := 1, ground := .data }, { on := 3, ground := .data }, { on := 1, ground := .chain }], guard := none }) rfl (fun KQ hKQ => ?_) AllReadyH.nil
  go_simp
  refine (QA.out _).mono ?_
  rintro e y3 ⟨A1, c1, rfl, hO1, hY3⟩
  have q3 := q2.trans (hY3.mono q2.size)
  have r3 := HS.out _ q3
  go_wp2_with fail
  refine hKQ.out _ _ ?s_4 (fun hHeld4 => ?_)
  case s_4 => exact r3
  clear hKQ KQ
  try simp only [Act.put, List.setIfInBounds_toArray, List.set_cons_zero, List.set_cons_succ]
  refine wpAnyH_ready (rs := [6]) (by kernel_rfl) (by simp) ?_
  refine AllReadyH.cons (o := { dst := some 15, op := .call { callee := .value (.func 44), args := #[.tmp 14], argTypes := #[25] }, type := 23, pos := "ref.go:114", after := #[{ on := 5, ground := .data }, { on := 4, ground := .chain }], guard := none }) rfl (fun KQ hKQ => ?_) AllReadyH.nil
  go_simp
  refine (CB.out _).mono ?_
  rintro e y4 ⟨rfl, hY4⟩
  have q4 := q3.trans (hY4.mono q3.size)
  have r4 := HS.out _ q4
  go_wp2_with fail
  refine hKQ.out _ _ ?s_6 (fun hHeld6 => ?_)
  case s_6 => exact r4
  clear hKQ KQ
  try simp only [Act.put, List.setIfInBounds_toArray, List.set_cons_zero, List.set_cons_succ]
  refine wpAnyH_ready (rs := [9]) (by kernel_rfl) (by simp) ?_
  refine AllReadyH.cons (o := { dst := some 18, op := .call { callee := .value (.func 55), args := #[.tmp 15, .tmp 17], argTypes := #[23, 3] }, type := 57, pos := "ref.go:114", after := #[{ on := 6, ground := .data }, { on := 8, ground := .data }, { on := 6, ground := .chain }], guard := none }) rfl (fun KQ hKQ => ?_) AllReadyH.nil
  go_simp
  refine (QB.out _).mono ?_
  rintro e y5 ⟨A2, c2, rfl, hO2, hY5⟩
  have q5 := q4.trans (hY5.mono q4.size)
  have r5 := HS.out _ q5
  go_wp2_with fail
  refine hKQ.out _ _ ?s_9 (fun hHeld9 => ?_)
  case s_9 => exact r5
  clear hKQ KQ
  try simp only [Act.put, List.setIfInBounds_toArray, List.set_cons_zero, List.set_cons_succ]
  refine tk 10 { dst := some 5, op := .assign (.tmp 13), type := 57, pos := "ref.go:114", after := #[{ on := 4, ground := .data }, { on := 9, ground := .chain }, { on := 0, ground := .phase }, { on := 1, ground := .phase }, { on := 2, ground := .phase }, { on := 3, ground := .phase }, { on := 4, ground := .phase }, { on := 5, ground := .textOnly Go.Departure.lateStores }, { on := 6, ground := .textOnly Go.Departure.lateStoresUnsure }, { on := 7, ground := .textOnly Go.Departure.lateStores }, { on := 8, ground := .textOnly Go.Departure.lateStores }, { on := 9, ground := .textOnly Go.Departure.lateStoresUnsure }], guard := none } _ ?_
  try simp only [Act.put, List.setIfInBounds_toArray, List.set_cons_zero, List.set_cons_succ]
  refine tk 11 { dst := some 6, op := .assign (.tmp 18), type := 57, pos := "ref.go:114", after := #[{ on := 9, ground := .data }, { on := 10, ground := .chain }, { on := 0, ground := .phase }, { on := 1, ground := .phase }, { on := 2, ground := .phase }, { on := 3, ground := .phase }, { on := 4, ground := .phase }, { on := 5, ground := .phase }, { on := 6, ground := .phase }, { on := 7, ground := .phase }, { on := 8, ground := .phase }, { on := 9, ground := .phase }, { on := 10, ground := .phase }], guard := none } _ ?_
  try simp only [Act.put, List.setIfInBounds_toArray, List.set_cons_zero, List.set_cons_succ]
  refine wpAnyH_done (by kernel_rfl) ?_ _
  have hO3 := (hO1.below hY4).below hY5
  have HXA := Lib.hid (fun j hj => ref9.own_u16 (W := w) hO3 HNL.out j hj)
  have HYA := Lib.hid (fun j hj => ref9.own_u16 (W := w) hO2 HML.out j hj)
  have HB5 := Lib.hid (HB.out.trans (q5.mono HB.out.size))
  clear hO1 hO2 hO3 r0 r2 r3 r4 r5 q0 q1 q2 q3 q4 q5 hY2 hY3 hY4 hY5 HS CA CB QA QB HB
  go_wp2_with fail
  go_loopw [7] (fun iv wr => ∃ i : Nat, i ≤ n ∧ iv = .int .i64 (i : Int) ∧ Below y5.heap.size y5 wr ∧ Hid (∀ x ∈ xs.take i, (ys.all fun y => decide (meetF x y ≠ 0)) = true)) (fun iv _ => n - (intOf iv).toNat)
  case atStart => exact ⟨0, Nat.zero_le _, rfl, Below.refl _ _, fun x hx => by simp at hx⟩
  case round =>
    obtain ⟨i, hi, rfl, hBr, HI⟩ := hrel
    by_cases hlt : i < n
    · obtain ⟨p1, f1, x, rfl, hp1, hx, hc1⟩ := HXA.out i hlt
      have HXI := Lib.hid hx
      have hxl := HXL.out x (List.mem_of_getElem? hx)
      clear hx
      go_wp2_with fail
      generalize wr = w6 at *
      go_loopw [8] (fun kv wz => ∃ k : Nat, k ≤ m ∧ kv = .int .i64 (k : Int) ∧ Below w6.heap.size w6 wz ∧ Hid (∀ y ∈ ys.take k, decide (meetF x y ≠ 0) = true)) (fun kv _ => m - (intOf kv).toNat)
      case atStart => exact ⟨0, Nat.zero_le _, rfl, Below.refl _ _, fun x hx => by simp at hx⟩
      case round =>
        obtain ⟨k, hk, rfl, hBz, HK⟩ := hrel
        by_cases hlk : k < m
        · obtain ⟨p2, f2, y, rfl, hp2, hy, hc2⟩ := HYA.out k hlk
          have HYI := Lib.hid hy
          have hyl := HYL.out y (List.mem_of_getElem? hy)
          have hC := Lib.hid (fun w => CM.out x y hxl hyl w)
          clear hy
          have HS : Hid (∀ wq, Below wr.heap.size wr wq → wq.cell? ⟨p1, f1 + i, none⟩ = some (.int .u16 (x : Int)) ∧ wq.cell? ⟨p2, f2 + k, none⟩ = some (.int .u16 (y : Int))) := fun wq hq => by
            have hq2 := (hBr.trans (hBz.mono hBr.size)).trans (hq.mono (Nat.le_trans hBr.size hBz.size))
            exact ⟨(hq2.cell (p := ⟨p1, f1 + i, none⟩) hp1).trans hc1, (hq2.cell (p := ⟨p2, f2 + k, none⟩) hp2).trans hc2⟩
          have q0 := Below.refl wr.heap.size wr
          generalize hz : meetF x y = z at *
          have HZ := Lib.hid hz
          clear hz hc1 hc2
          go_upto_region 8 with (fail)
          by_cases hz0 : z = 0
          · have HZ0 := Lib.hid hz0
            clear hz0
            have q11 := q0.drew
            refine wp_region_held_drew (S := fun wq => wq.cell? ⟨p1, f1 + i, none⟩ = some (.int .u16 (x : Int)) ∧ wq.cell? ⟨p2, f2 + k, none⟩ = some (.int .u16 (y : Int))) (by kernel_rfl) ?s_rmeet8a (fun hHeld => ?_)
            case s_rmeet8a => exact HS.out _ q11
            refine tk 0 { dst := some 31, op := .move (.tmp 5), type := 57, pos := "ref.go:117", after := #[], guard := none } _ ?_
            try simp only [Act.put, List.setIfInBounds_toArray, List.set_cons_zero, List.set_cons_succ]
            refine tk 1 { dst := some 32, op := .move (.tmp 7), type := 3, pos := "ref.go:117", after := #[], guard := none } _ ?_
            try simp only [Act.put, List.setIfInBounds_toArray, List.set_cons_zero, List.set_cons_succ]
            refine tk 2 { dst := some 33, op := .indexAddr 57 (.tmp 31) (.tmp 32), type := 0, pos := "ref.go:117", after := #[{ on := 0, ground := .data }, { on := 1, ground := .data }], guard := none } _ ?_
            try simp only [Act.put, List.setIfInBounds_toArray, List.set_cons_zero, List.set_cons_succ]
            refine tk 3 { dst := some 34, op := .load 23 (.tmp 33), type := 23, pos := "ref.go:117", after := #[{ on := 2, ground := .data }], guard := none } _ ?_
            try simp only [Act.put, List.setIfInBounds_toArray, List.set_cons_zero, List.set_cons_succ]
            refine tk 4 { dst := some 35, op := .move (.tmp 6), type := 57, pos := "ref.go:117", after := #[], guard := none } _ ?_
            try simp only [Act.put, List.setIfInBounds_toArray, List.set_cons_zero, List.set_cons_succ]
            refine tk 5 { dst := some 36, op := .move (.tmp 8), type := 3, pos := "ref.go:117", after := #[], guard := none } _ ?_
            try simp only [Act.put, List.setIfInBounds_toArray, List.set_cons_zero, List.set_cons_succ]
            refine tk 6 { dst := some 37, op := .indexAddr 57 (.tmp 35) (.tmp 36), type := 0, pos := "ref.go:117", after := #[{ on := 4, ground := .data }, { on := 5, ground := .data }], guard := none } _ ?_
            try simp only [Act.put, List.setIfInBounds_toArray, List.set_cons_zero, List.set_cons_succ]
            refine tk 7 { dst := some 38, op := .load 23 (.tmp 37), type := 23, pos := "ref.go:117", after := #[{ on := 6, ground := .data }], guard := none } _ ?_
            try simp only [Act.put, List.setIfInBounds_toArray, List.set_cons_zero, List.set_cons_succ]
            refine wpAnyH_ready (rs := [8]) (by kernel_rfl) (by simp) ?_
            refine AllReadyH.cons (o := { dst := some 39, op := .call { callee := .value (.func 35), args := #[.tmp 34, .tmp 38], argTypes := #[23, 23] }, type := 23, pos := "ref.go:117", after := #[{ on := 3, ground := .data }, { on := 7, ground := .data }], guard := none }) rfl (fun KQ hKQ => ?_) AllReadyH.nil
            go_simp
            refine (hC.out _).mono ?_
            rintro e y12 ⟨rfl, rfl⟩
            have r12 := HS.out _ q11
            go_wp2_with fail
            refine hKQ.out _ _ ?s_8 (fun hHeld8 => ?_)
            case s_8 => exact r12
            clear hKQ KQ
            try simp only [Act.put, List.setIfInBounds_toArray, List.set_cons_zero, List.set_cons_succ]
            refine tk 9 { dst := some 40, op := .binOp .eql 23 (.tmp 39) (.const (.int .u16 0)) 23, type := 4, pos := "ref.go:117", after := #[{ on := 8, ground := .data }], guard := none } _ ?_
            try simp only [Act.put, List.setIfInBounds_toArray, List.set_cons_zero, List.set_cons_succ]
            refine wpAnyH_done (by kernel_rfl) ?_ _
            have hz0 := HZ0.out
            clear q0
            go_wp2_with fail
            go_ret
            exact ⟨ref9.ret_bool (by rw [show meetR xs ys = false from meetR_false HXI.out HYI.out (by rw [HZ.out]; exact HZ0.out)]), HB5.out.trans (((hBr.trans (hBz.mono hBr.size)).trans (q11.mono (Nat.le_trans hBr.size hBz.size))).mono HB5.out.size)⟩
          · have HZ0 := Lib.hid hz0
            clear hz0
            have q21 := q0.drew
            refine wp_region_held_drew (S := fun wq => wq.cell? ⟨p1, f1 + i, none⟩ = some (.int .u16 (x : Int)) ∧ wq.cell? ⟨p2, f2 + k, none⟩ = some (.int .u16 (y : Int))) (by kernel_rfl) ?s_rmeet8b (fun hHeld => ?_)
            case s_rmeet8b => exact HS.out _ q21
            refine tk 0 { dst := some 31, op := .move (.tmp 5), type := 57, pos := "ref.go:117", after := #[], guard := none } _ ?_
            try simp only [Act.put, List.setIfInBounds_toArray, List.set_cons_zero, List.set_cons_succ]
            refine tk 1 { dst := some 32, op := .move (.tmp 7), type := 3, pos := "ref.go:117", after := #[], guard := none } _ ?_
            try simp only [Act.put, List.setIfInBounds_toArray, List.set_cons_zero, List.set_cons_succ]
            refine tk 2 { dst := some 33, op := .indexAddr 57 (.tmp 31) (.tmp 32), type := 0, pos := "ref.go:117", after := #[{ on := 0, ground := .data }, { on := 1, ground := .data }], guard := none } _ ?_
            try simp only [Act.put, List.setIfInBounds_toArray, List.set_cons_zero, List.set_cons_succ]
            refine tk 3 { dst := some 34, op := .load 23 (.tmp 33), type := 23, pos := "ref.go:117", after := #[{ on := 2, ground := .data }], guard := none } _ ?_
            try simp only [Act.put, List.setIfInBounds_toArray, List.set_cons_zero, List.set_cons_succ]
            refine tk 4 { dst := some 35, op := .move (.tmp 6), type := 57, pos := "ref.go:117", after := #[], guard := none } _ ?_
            try simp only [Act.put, List.setIfInBounds_toArray, List.set_cons_zero, List.set_cons_succ]
            refine tk 5 { dst := some 36, op := .move (.tmp 8), type := 3, pos := "ref.go:117", after := #[], guard := none } _ ?_
            try simp only [Act.put, List.setIfInBounds_toArray, List.set_cons_zero, List.set_cons_succ]
            refine tk 6 { dst := some 37, op := .indexAddr 57 (.tmp 35) (.tmp 36), type := 0, pos := "ref.go:117", after := #[{ on := 4, ground := .data }, { on := 5, ground := .data }], guard := none } _ ?_
            try simp only [Act.put, List.setIfInBounds_toArray, List.set_cons_zero, List.set_cons_succ]
            refine tk 7 { dst := some 38, op := .load 23 (.tmp 37), type := 23, pos := "ref.go:117", after := #[{ on := 6, ground := .data }], guard := none } _ ?_
            try simp only [Act.put, List.setIfInBounds_toArray, List.set_cons_zero, List.set_cons_succ]
            refine wpAnyH_ready (rs := [8]) (by kernel_rfl) (by simp) ?_
            refine AllReadyH.cons (o := { dst := some 39, op := .call { callee := .value (.func 35), args := #[.tmp 34, .tmp 38], argTypes := #[23, 23] }, type := 23, pos := "ref.go:117", after := #[{ on := 3, ground := .data }, { on := 7, ground := .data }], guard := none }) rfl (fun KQ hKQ => ?_) AllReadyH.nil
            go_simp
            refine (hC.out _).mono ?_
            rintro e y22 ⟨rfl, rfl⟩
            have r22 := HS.out _ q21
            go_wp2_with fail
            refine hKQ.out _ _ ?s_8 (fun hHeld8 => ?_)
            case s_8 => exact r22
            clear hKQ KQ
            try simp only [Act.put, List.setIfInBounds_toArray, List.set_cons_zero, List.set_cons_succ]
            refine tk 9 { dst := some 40, op := .binOp .eql 23 (.tmp 39) (.const (.int .u16 0)) 23, type := 4, pos := "ref.go:117", after := #[{ on := 8, ground := .data }], guard := none } _ ?_
            try simp only [Act.put, List.setIfInBounds_toArray, List.set_cons_zero, List.set_cons_succ]
            refine wpAnyH_done (by kernel_rfl) ?_ _
            have hz0 := HZ0.out
            clear q0
            go_wp2_with fail
            go_round
            case rel => exact ⟨k + 1, by omega, by go_num, hBz.trans (q21.mono hBz.size), nat_more HK.out HYI.out (by rw [HZ.out]; exact decide_eq_true HZ0.out)⟩
            case measure => simp [intOf]; omega
        · obtain rfl : k = m := by omega
          go_wp2_with fail
          go_round
          case rel => exact ⟨i + 1, by omega, by go_num, hBr.trans (hBz.mono hBr.size), nat_more (P := fun x => ys.all fun y => decide (meetF x y ≠ 0)) HI.out HXI.out (nat_good (P := fun y => decide (meetF x y ≠ 0)) HK.out HML.out)⟩
          case measure => simp [intOf]; omega
    · obtain rfl : i = n := by omega
      go_wp2_with fail
      go_ret
      exact ⟨ref9.ret_bool (nat_good HI.out HNL.out).symm, HB5.out.trans (hBr.mono HB5.out.size)⟩
end Go.Proofs.Ytdpfpcdoocampaa.ref10
