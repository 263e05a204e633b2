/- What MvccScans comes to. Conditions: what the operations read as. -/
import Derived.Test.YtlkhmpfdajefiaaTrims8
namespace Go.Proofs.Ytlkhmpfdajefiaa.law8
open Go Go.RowKit Go.Proofs.Ytlkhmpfdajefiaa.kit Go.Proofs.Ytlkhmpfdajefiaa.nums Go.Proofs.Ytlkhmpfdajefiaa.st Go.Proofs.Ytlkhmpfdajefiaa.mv Go.Proofs.Ytlkhmpfdajefiaa.ref8
set_option linter.unusedVariables false

theorem one_some {lo hi : ByteArray} {t : StL} {x : CellL} {d : ByteArray} (h1 : sl x.key lo = false) (h2 : sl x.key hi = true) (h3 : ofF x.vers t = some d) : oneScan lo hi t x = some (x.key, d) := by
  unfold oneScan inF
  rw [h1, h2, h3]
  rfl
theorem one_none {lo hi : ByteArray} {t : StL} {x : CellL} (h : ofF x.vers t = none ∨ sl x.key lo = true ∨ sl x.key hi = false) : oneScan lo hi t x = none := by
  unfold oneScan inF
  rcases h with h | h | h
  · rw [h]; simp
  · rw [h]; rfl
  · rw [h]; simp
theorem fm_get {α β : Type} {f : α → Option β} {l : List α} {i : Nat} {x : α} {y : β} (hx : l[i]? = some x) (hf : f x = some y) : (l.filterMap f)[((l.take i).filterMap f).length]? = some y := by
  obtain ⟨hi, rfl⟩ := List.getElem?_eq_some_iff.1 hx
  have e : l = l.take i ++ l[i] :: l.drop (i + 1) := by rw [List.getElem_cons_drop, List.take_append_drop]
  have h2 : l.filterMap f = (l.take i).filterMap f ++ (l[i] :: l.drop (i + 1)).filterMap f := by
    rw [← List.filterMap_append, ← e]
  rw [h2, List.getElem?_append_right (Nat.le_refl _), Nat.sub_self, List.filterMap_cons_some hf]
  rfl
set_option maxRecDepth 100000 in
set_option maxHeartbeats 4000000 in
theorem scans_any (A : Option Addr) (n c : Nat) (os : List OpM) (lo hi : ByteArray) (ta : StL) (w : World) (B : Nat) (hR : RdOpM w B A n os) (hB : B ≤ w.heap.size) (hn : n ≤ 9223372036854775807) :
    Calls Try.prog 8 #[.slice A n c, .agg #[.string lo, .string hi], .agg #[.int .i64 ta.wall, .int .i64 ta.tie]] w fun e w' => e = .returned (.bool true) ∧ Below w.heap.size w w' := by
  have HLN := Lib.hid hR.1
  have HC := Lib.hid (fun j (hj : j < n) => hR.at_ hj)
  have BG := Lib.hid (fun w => begun_any w)
  have LT := Lib.hid (fun (wq : World) (h : Below w.heap.size w wq) => light_any A n c 60 os wq B (hR.below (h.mono hB)) hn)
  have hNP := fun p w => ne_pr_self p w
  have hB0 : Hid (Below w.heap.size w ((w.alloc (.cells #[.string lo, .string hi] 26)).alloc (.cells #[.int .i64 ta.wall, .int .i64 ta.tie] 24))) := ((Below.refl _ _).alloc (Nat.le_refl _) _).alloc (by simp) _
  have k0 : Blk 26 ((w.alloc (.cells #[.string lo, .string hi] 26)).alloc (.cells #[.int .i64 ta.wall, .int .i64 ta.tie] 24)) w.heap.size [.string lo, .string hi] := Blk.alloc (heap_alloc_new w _) _
  have k1 : Blk 24 ((w.alloc (.cells #[.string lo, .string hi] 26)).alloc (.cells #[.int .i64 ta.wall, .int .i64 ta.tie] 24)) (w.heap.size + 1) [.int .i64 ta.wall, .int .i64 ta.tie] := by
    have := heap_alloc_new (w.alloc (.cells #[.string lo, .string hi] 26)) (.cells #[.int .i64 ta.wall, .int .i64 ta.tie] 24)
    simpa [Blk] using this
  have HS : Hid (∀ wq, Below ((w.alloc (.cells #[.string lo, .string hi] 26)).alloc (.cells #[.int .i64 ta.wall, .int .i64 ta.tie] 24)).heap.size ((w.alloc (.cells #[.string lo, .string hi] 26)).alloc (.cells #[.int .i64 ta.wall, .int .i64 ta.tie] 24)) wq → wq.cell? ⟨w.heap.size, 0, none⟩ = some (.string lo) ∧ wq.cell? ⟨w.heap.size, 1, none⟩ = some (.string hi) ∧ wq.cell? ⟨w.heap.size + 1, 0, none⟩ = some (.int .i64 ta.wall) ∧ wq.cell? ⟨w.heap.size + 1, 1, none⟩ = some (.int .i64 ta.tie)) := fun wq hq => by
    have h0 := k0.below hq k0.lt
    have h1 := k1.below hq k1.lt
    exact ⟨h0.cell 0, h0.cell 1, h1.cell 0, h1.cell 1⟩
  clear k0 k1 hR
  go_enter Try.func8, Try.ntmps8
  go_upto_region 1 with (fail)
  generalize ((w.alloc (.cells #[.string lo, .string hi] 26)).alloc (.cells #[.int .i64 ta.wall, .int .i64 ta.tie] 24)) = w1 at *
  go_wp2_with fail
  refine (BG.out _).mono ?_
  rintro e wa ⟨rfl, hBa⟩
  have HBW := Lib.hid (hB0.out.trans (hBa.mono hB0.out.size))
  obtain ⟨s0, s1, s2, s3⟩ := HS.out _ hBa
  go_wp2_with fail
  refine (LT.out _ HBW.out).mono ?_
  rintro e w3 ⟨r, rfl, hr, rfl⟩
  rcases r with _ | _
  · go_wp2_with fail
    go_ret
    exact ⟨rfl, HBW.out⟩
  have HLE : Hid (os.length ≤ 60) := by have := (hr rfl).1; exact Lib.hid (by omega)
  clear hr LT BG
  by_cases g1 : 200 < lo.size
  · go_wp2_with fail
    go_ret
    exact ⟨rfl, HBW.out⟩
  by_cases g2 : 200 < hi.size
  · go_wp2_with fail
    go_ret
    exact ⟨rfl, HBW.out⟩
  go_wp2_with fail
  clear s0 s1 s2 s3 g1 g2
  go_loopw [7, 8] (fun cv iv wr => ∃ (j m : Nat) (A' : Option Addr) (c' : Nat), j ≤ n ∧ iv = .int .i64 j ∧ cv = .slice A' m c' ∧ Hid ((runF (os.take j)).length = m) ∧ OwnCs wr wa.heap.size (.slice A' m c') (runF (os.take j)) ∧ Below wa.heap.size wa wr) (fun _ iv _ => n - (intOf iv).toNat)
  case atStart => exact ⟨0, 0, none, 0, Nat.zero_le _, rfl, rfl, rfl, OwnCs.nil _ _, Below.refl _ _⟩
  case round =>
    obtain ⟨j, m, A', c', hj, rfl, rfl, hm, hO, hBr⟩ := hrel
    have hsr := hBr.size
    by_cases hlt : j < n
    · obtain ⟨b', o, x, rfl, hb, hx, hA⟩ := HC.out j hlt
      have DO := Lib.hid (run_do hx HLE.out hm.out hO (Below.refl wr.heap.size wr))
      have hAr := hA.below hb ((HBW.out.trans (hBr.mono HBW.out.size)).mono hB)
      unfold opC at DO
      obtain ⟨g0, g1, g2, g3, g4, g5, g6, g7, g8, g9, g10, g11, g12, g13⟩ := at14 hAr
      clear hAr hA hx hO hm
      go_wp2_with fail
      refine DO.out.mono ?_
      rintro e w5 ⟨A1, c1, A2, c2, rfl, hO1, hO2, hB5⟩
      go_wp2_with fail
      go_roundw
      case rel => exact ⟨j + 1, _, A1, c1, by omega, by go_num, rfl, rfl, hO1.more hsr, hBr.trans (hB5.mono hsr)⟩
      case measure => simp [intOf]; omega
    · obtain rfl : j = n := by omega
      have hOS : os.take j = os := List.take_of_length_le (by rw [HLN.out]; exact Nat.le_refl _)
      rw [hOS] at hO hm
      clear hOS
      obtain rfl := hm.out
      clear hm
      have HOK := Lib.hid (run_ok os)
      have HFW := Lib.hid (run_few os)
      have HLE' := Lib.hid HLE.out
      have p0 := hBr
      obtain ⟨wo, hwo⟩ : ∃ wo, wo = wr := ⟨_, rfl⟩
      subst hwo
      have HS2 : Hid (∀ wq, Below wo.heap.size wo wq → wq.cell? ⟨w.heap.size, 0, none⟩ = some (.string lo) ∧ wq.cell? ⟨w.heap.size, 1, none⟩ = some (.string hi) ∧ wq.cell? ⟨w.heap.size + 1, 0, none⟩ = some (.int .i64 ta.wall) ∧ wq.cell? ⟨w.heap.size + 1, 1, none⟩ = some (.int .i64 ta.tie)) := fun wq hq => HS.out _ ((hBa.trans (hBr.mono hBa.size)).trans (hq.mono (hBa.trans (hBr.mono hBa.size)).size))
      have HBZ := Lib.hid (HBW.out.trans (hBr.mono HBW.out.size))
      have hle := HLE.out
      have F0 := Lib.hid (few_of HFW.out (by omega))
      have hcl : (runF os).length ≤ 60 := Nat.le_trans HFW.out.1 (by omega)
      clear hle HC HLE HLN HFW HS
      generalize runF os = cs at *
      obtain ⟨ps, hps⟩ : ∃ ps, scanF cs lo hi ta = ps := ⟨_, rfl⟩
      have hpl : ps.length ≤ 60 := by rw [← hps]; exact Nat.le_trans (List.length_filterMap_le _ _) hcl
      have C1 := Lib.hid (own_scan' hO (Below.refl _ _) F0.out HOK.out lo hi ta ps hps)
      have C3 := Lib.hid (fun wq (hq : Below wo.heap.size wo wq) (most : Int) => (show Calls Try.prog 22 _ wq (RetPs wq ps most) from by rw [← hps]; exact own_scan hO hq F0.out HOK.out lo hi ta most))
      have C2 := Lib.hid (fun wq (hq : Below wo.heap.size wo wq) (x : CellL) (hx : x ∈ cs) => (show Calls Try.prog 26 #[.slice A' cs.length c', .string x.key, .agg #[.int .i64 ta.wall, .int .i64 ta.tie]] wq (fun e w' => e = .returned (.tuple #[.string ((ofF x.vers ta).getD noText), .bool (ofF x.vers ta).isSome]) ∧ Below wq.heap.size wq w') from by
        have := own_get hO hq F0.out HOK.out x.key ta
        have hg : getF cs x.key ta = ofF x.vers ta := by unfold getF; rw [find_mem HOK.out.1 x hx]; rfl
        rw [hg] at this
        exact this))
      have HPS : Hid (ps = cs.filterMap (oneScan lo hi ta)) := hps.symm
      have hRD := own_rd hO (Below.refl _ _)
      have HCC := Lib.hid (fun i (hi : i < cs.length) => hRD.at_ hi)
      clear hps hRD
      obtain ⟨s0, s1, s2, s3⟩ := HS2.out _ (Below.refl _ _)
      go_wp2_with fail
      refine C1.out.mono ?_
      rintro e z1 ⟨P1, d1, rfl, hP1, hZ1⟩
      clear s0 s1 s2 s3 C1
      have HPP := Lib.hid (fun k (hk : k < ps.length) => ps_at hP1 rfl hk)
      generalize hn' : ps.length = m at *
      generalize hcl2 : cs.length = nc at *
      go_wp2_with fail
      go_loopw [11, 12] (fun kv iv wt => ∃ i k : Nat, i ≤ nc ∧ iv = .int .i64 i ∧ kv = .int .i64 k ∧ k ≤ i ∧ Hid (((cs.take i).filterMap (oneScan lo hi ta)).length = k) ∧ Below z1.heap.size z1 wt) (fun _ iv _ => nc - (intOf iv).toNat)
      case atStart => exact ⟨0, 0, Nat.zero_le _, rfl, rfl, Nat.le_refl _, rfl, Below.refl _ _⟩
      case round =>
        obtain ⟨i, k, hi', rfl, rfl, hki, hK, hBt⟩ := hrel
        have r1 := hZ1.trans (hBt.mono hZ1.size)
        by_cases hlt2 : i < nc
        · obtain ⟨b, o, x, sv, rfl, hb, hx, hSv, hA⟩ := HCC.out i hlt2
          have HST := Lib.hid (fm_step' (f := oneScan lo hi ta) hx)
          have HGT := Lib.hid (fun y (hf : oneScan lo hi ta x = some y) => fm_get hx hf)
          have HON := Lib.hid (fun d h1 h2 h3 => one_some (lo := lo) (hi := hi) (t := ta) (x := x) (d := d) h1 h2 h3)
          have HNO := Lib.hid (fun h => one_none (lo := lo) (hi := hi) (t := ta) (x := x) h)
          have C2x := Lib.hid (fun wq (hq : Below wo.heap.size wo wq) => C2.out wq hq x (List.mem_of_getElem? hx))
          have HS17 : Hid (∀ wq, Below wo.heap.size wo wq → wq.cell? ⟨w.heap.size, 0, none⟩ = some (.string lo) ∧ wq.cell? ⟨w.heap.size, 1, none⟩ = some (.string hi) ∧ wq.cell? ⟨w.heap.size + 1, 0, none⟩ = some (.int .i64 ta.wall) ∧ wq.cell? ⟨w.heap.size + 1, 1, none⟩ = some (.int .i64 ta.tie) ∧ wq.cell? ⟨b, o + i * 12, none⟩ = some (.string x.key)) := fun wq hq => by
            have h := HS2.out wq hq
            exact ⟨h.1, h.2.1, h.2.2.1, h.2.2.2, (hA.below hb hq) 0 _ rfl⟩
          have t1 := text_less x.key lo
          have t2 := text_less x.key hi
          clear hA hx hSv
          have p0 : Below z1.heap.size z1 wr.drew := hBt.drew
          have q0 : Below wo.heap.size wo wr.drew := r1.drew
          generalize hof : ofF x.vers ta = r at *
          go_upto_region 17 with (fail)
          refine wp_region_held_drew (S := fun wq => wq.cell? ⟨w.heap.size, 0, none⟩ = some (.string lo) ∧ wq.cell? ⟨w.heap.size, 1, none⟩ = some (.string hi) ∧ wq.cell? ⟨w.heap.size + 1, 0, none⟩ = some (.int .i64 ta.wall) ∧ wq.cell? ⟨w.heap.size + 1, 1, none⟩ = some (.int .i64 ta.tie) ∧ wq.cell? ⟨b, o + i * 12, none⟩ = some (.string x.key)) (by kernel_rfl) ?s_0 (fun hHeld => ?_)
          case s_0 => exact HS17.out _ q0
          refine tk 0 { dst := some 65, op := .move (.tmp 7), type := 31, pos := "more.go:27", after := #[], guard := none } _ ?_
          try simp only [Act.put, List.setIfInBounds_toArray, List.set_cons_zero, List.set_cons_succ]
          refine tk 1 { dst := some 66, op := .move (.tmp 7), type := 31, pos := "more.go:27", after := #[], guard := none } _ ?_
          try simp only [Act.put, List.setIfInBounds_toArray, List.set_cons_zero, List.set_cons_succ]
          refine tk 2 { dst := some 67, op := .move (.tmp 12), type := 3, pos := "more.go:27", after := #[], guard := none } _ ?_
          try simp only [Act.put, List.setIfInBounds_toArray, List.set_cons_zero, List.set_cons_succ]
          refine tk 3 { dst := some 68, op := .indexAddr 31 (.tmp 66) (.tmp 67), type := 0, pos := "more.go:27", after := #[{ on := 1, ground := .data }, { on := 2, ground := .data }], guard := none } _ ?_
          try simp only [Act.put, List.setIfInBounds_toArray, List.set_cons_zero, List.set_cons_succ]
          refine tk 4 { dst := some 69, op := .fieldAddr 45 (.tmp 68) 0, type := 0, pos := "more.go:27", after := #[{ on := 3, ground := .data }], guard := none } _ ?_
          try simp only [Act.put, List.setIfInBounds_toArray, List.set_cons_zero, List.set_cons_succ]
          refine tk 5 { dst := some 70, op := .load 9 (.tmp 69), type := 9, pos := "more.go:27", after := #[{ on := 4, ground := .data }], guard := none } _ ?_
          try simp only [Act.put, List.setIfInBounds_toArray, List.set_cons_zero, List.set_cons_succ]
          refine tk 6 { dst := some 71, op := .load 24 (.tmp 5), type := 24, pos := "more.go:27", after := #[], guard := none } _ ?_
          try simp only [Act.put, List.setIfInBounds_toArray, List.set_cons_zero, List.set_cons_succ]
          refine wpAnyH_ready (rs := [7]) (by kernel_rfl) (by simp) ?_
          refine AllReadyH.cons (o := { dst := some 72, op := .call { callee := .value (.func 26), args := #[.tmp 65, .tmp 70, .tmp 71], argTypes := #[31, 9, 24] }, type := 63, pos := "more.go:27", after := #[{ on := 0, ground := .data }, { on := 5, ground := .data }, { on := 6, ground := .data }], guard := none }) rfl (fun KQ hKQ => ?_) AllReadyH.nil
          go_simp
          refine (C2x.out _ q0).mono ?_
          rintro e y1 ⟨rfl, hY1⟩
          have p1 := p0.trans (hY1.mono p0.size)
          have q1 := q0.trans (hY1.mono q0.size)
          have r2 := HS17.out _ q1
          go_wp2_with fail
          refine hKQ.out _ _ ?s_7 (fun hHeld7 => ?_)
          case s_7 => exact r2
          clear hKQ KQ
          try simp only [Act.put, List.setIfInBounds_toArray, List.set_cons_zero, List.set_cons_succ]
          refine tk 8 { dst := some 64, op := .move (.tmp 72), type := 63, pos := "more.go:27", after := #[{ on := 7, ground := .data }], guard := none } _ ?_
          try simp only [Act.put, List.setIfInBounds_toArray, List.set_cons_zero, List.set_cons_succ]
          refine tk 9 { dst := some 73, op := .extract (.tmp 64) 0, type := 9, pos := "more.go:27", after := #[{ on := 8, ground := .data }], guard := none } _ ?_
          try simp only [Act.put, List.setIfInBounds_toArray, List.set_cons_zero, List.set_cons_succ]
          refine tk 10 { dst := some 74, op := .extract (.tmp 64) 1, type := 4, pos := "more.go:27", after := #[{ on := 8, ground := .data }, { on := 11, ground := .gcOnly Go.Departure.lateStores }], guard := none } _ ?_
          try simp only [Act.put, List.setIfInBounds_toArray, List.set_cons_zero, List.set_cons_succ]
          refine tk 11 { dst := some 13, op := .assign (.tmp 73), type := 9, pos := "more.go:27", after := #[{ on := 9, ground := .data }, { on := 7, ground := .chain }, { on := 0, ground := .phase }, { on := 1, ground := .phase }, { on := 2, ground := .phase }, { on := 3, ground := .phase }, { on := 4, ground := .phase }, { on := 5, ground := .phase }, { on := 6, ground := .phase }, { on := 7, ground := .phase }, { on := 8, ground := .phase }, { on := 9, ground := .phase }, { on := 10, ground := .textOnly Go.Departure.lateStores }], guard := none } _ ?_
          try simp only [Act.put, List.setIfInBounds_toArray, List.set_cons_zero, List.set_cons_succ]
          refine tk 12 { dst := some 14, op := .assign (.tmp 74), type := 4, pos := "more.go:27", after := #[{ on := 10, ground := .data }, { on := 11, ground := .chain }, { on := 0, ground := .phase }, { on := 1, ground := .phase }, { on := 2, ground := .phase }, { on := 3, ground := .phase }, { on := 4, ground := .phase }, { on := 5, ground := .phase }, { on := 6, ground := .phase }, { on := 7, ground := .phase }, { on := 8, ground := .phase }, { on := 9, ground := .phase }, { on := 10, ground := .phase }, { on := 11, ground := .phase }], guard := none } _ ?_
          try simp only [Act.put, List.setIfInBounds_toArray, List.set_cons_zero, List.set_cons_succ]
          refine wpAnyH_done (by kernel_rfl) ?_ _
          rcases r with _ | d
          · have HN : Hid ((cs.take (i + 1)).filterMap (oneScan lo hi ta) = (cs.take i).filterMap (oneScan lo hi ta)) := by rw [HST.out, HNO.out (.inl rfl)]; simp [Hid]
            clear HST HGT HON HNO hof
            go_upto_region 18 with (fail)
            refine wp_region_held_drew (S := fun wq => wq.cell? ⟨w.heap.size, 0, none⟩ = some (.string lo) ∧ wq.cell? ⟨w.heap.size, 1, none⟩ = some (.string hi) ∧ wq.cell? ⟨w.heap.size + 1, 0, none⟩ = some (.int .i64 ta.wall) ∧ wq.cell? ⟨w.heap.size + 1, 1, none⟩ = some (.int .i64 ta.tie) ∧ wq.cell? ⟨b, o + i * 12, none⟩ = some (.string x.key)) (by kernel_rfl) ?s_1 (fun hHeld => ?_)
            case s_1 => exact HS17.out _ q1.drew
            refine tk 0 { dst := some 75, op := .move (.tmp 14), type := 4, pos := "more.go:28", after := #[], guard := none } _ ?_
            try simp only [Act.put, List.setIfInBounds_toArray, List.set_cons_zero, List.set_cons_succ]
            refine tk 1 { dst := some 76, op := .unOp .not 4 (.tmp 75), type := 4, pos := "more.go:28", after := #[{ on := 0, ground := .data }], guard := none } _ ?_
            try simp only [Act.put, List.setIfInBounds_toArray, List.set_cons_zero, List.set_cons_succ]
            refine tk 2 { dst := some 77, op := .move (.tmp 76), type := 4, pos := "more.go:28", after := #[{ on := 1, ground := .data }], guard := none } _ ?_
            try simp only [Act.put, List.setIfInBounds_toArray, List.set_cons_zero, List.set_cons_succ]
            refine tu 3 { dst := some 78, op := .move (.tmp 7), type := 31, pos := "more.go:28", after := #[{ on := 2, ground := .guard }], guard := some (2, false) } ?_
            try simp only [Act.put, List.setIfInBounds_toArray, List.set_cons_zero, List.set_cons_succ]
            refine tu 4 { dst := some 79, op := .move (.tmp 12), type := 3, pos := "more.go:28", after := #[{ on := 2, ground := .guard }], guard := some (2, false) } ?_
            try simp only [Act.put, List.setIfInBounds_toArray, List.set_cons_zero, List.set_cons_succ]
            refine tu 5 { dst := some 80, op := .indexAddr 31 (.tmp 78) (.tmp 79), type := 0, pos := "more.go:28", after := #[{ on := 3, ground := .data }, { on := 4, ground := .data }, { on := 2, ground := .guard }], guard := some (2, false) } ?_
            try simp only [Act.put, List.setIfInBounds_toArray, List.set_cons_zero, List.set_cons_succ]
            refine tu 6 { dst := some 81, op := .fieldAddr 45 (.tmp 80) 0, type := 0, pos := "more.go:28", after := #[{ on := 5, ground := .data }, { on := 2, ground := .guard }], guard := some (2, false) } ?_
            try simp only [Act.put, List.setIfInBounds_toArray, List.set_cons_zero, List.set_cons_succ]
            refine tu 7 { dst := some 82, op := .load 9 (.tmp 81), type := 9, pos := "more.go:28", after := #[{ on := 6, ground := .data }, { on := 2, ground := .guard }], guard := some (2, false) } ?_
            try simp only [Act.put, List.setIfInBounds_toArray, List.set_cons_zero, List.set_cons_succ]
            refine tu 8 { dst := some 83, op := .fieldAddr 26 (.tmp 4) 0, type := 0, pos := "more.go:28", after := #[{ on := 2, ground := .guard }], guard := some (2, false) } ?_
            try simp only [Act.put, List.setIfInBounds_toArray, List.set_cons_zero, List.set_cons_succ]
            refine tu 9 { dst := some 84, op := .load 9 (.tmp 83), type := 9, pos := "more.go:28", after := #[{ on := 8, ground := .data }, { on := 2, ground := .guard }], guard := some (2, false) } ?_
            try simp only [Act.put, List.setIfInBounds_toArray, List.set_cons_zero, List.set_cons_succ]
            refine tu 10 { dst := some 85, op := .binOp .lss 9 (.tmp 82) (.tmp 84) 9, type := 4, pos := "more.go:28", after := #[{ on := 7, ground := .data }, { on := 9, ground := .data }, { on := 2, ground := .guard }], guard := some (2, false) } ?_
            try simp only [Act.put, List.setIfInBounds_toArray, List.set_cons_zero, List.set_cons_succ]
            refine tk 11 { dst := some 86, op := .pick (.tmp 77) (.const (.bool true)) (.tmp 85), type := 4, pos := "more.go:28", after := #[{ on := 2, ground := .data }, { on := 10, ground := .data }], guard := none } _ ?_
            try simp only [Act.put, List.setIfInBounds_toArray, List.set_cons_zero, List.set_cons_succ]
            refine tk 12 { dst := some 87, op := .move (.tmp 86), type := 4, pos := "more.go:28", after := #[{ on := 11, ground := .data }, { on := 2, ground := .chain }], guard := none } _ ?_
            try simp only [Act.put, List.setIfInBounds_toArray, List.set_cons_zero, List.set_cons_succ]
            refine tu 13 { dst := some 88, op := .move (.tmp 7), type := 31, pos := "more.go:28", after := #[{ on := 12, ground := .guard }], guard := some (12, false) } ?_
            try simp only [Act.put, List.setIfInBounds_toArray, List.set_cons_zero, List.set_cons_succ]
            refine tu 14 { dst := some 89, op := .move (.tmp 12), type := 3, pos := "more.go:28", after := #[{ on := 12, ground := .guard }], guard := some (12, false) } ?_
            try simp only [Act.put, List.setIfInBounds_toArray, List.set_cons_zero, List.set_cons_succ]
            refine tu 15 { dst := some 90, op := .indexAddr 31 (.tmp 88) (.tmp 89), type := 0, pos := "more.go:28", after := #[{ on := 13, ground := .data }, { on := 14, ground := .data }, { on := 12, ground := .guard }], guard := some (12, false) } ?_
            try simp only [Act.put, List.setIfInBounds_toArray, List.set_cons_zero, List.set_cons_succ]
            refine tu 16 { dst := some 91, op := .fieldAddr 45 (.tmp 90) 0, type := 0, pos := "more.go:28", after := #[{ on := 15, ground := .data }, { on := 12, ground := .guard }], guard := some (12, false) } ?_
            try simp only [Act.put, List.setIfInBounds_toArray, List.set_cons_zero, List.set_cons_succ]
            refine tu 17 { dst := some 92, op := .load 9 (.tmp 91), type := 9, pos := "more.go:28", after := #[{ on := 16, ground := .data }, { on := 12, ground := .guard }], guard := some (12, false) } ?_
            try simp only [Act.put, List.setIfInBounds_toArray, List.set_cons_zero, List.set_cons_succ]
            refine tu 18 { dst := some 93, op := .fieldAddr 26 (.tmp 4) 1, type := 0, pos := "more.go:28", after := #[{ on := 12, ground := .guard }], guard := some (12, false) } ?_
            try simp only [Act.put, List.setIfInBounds_toArray, List.set_cons_zero, List.set_cons_succ]
            refine tu 19 { dst := some 94, op := .load 9 (.tmp 93), type := 9, pos := "more.go:28", after := #[{ on := 18, ground := .data }, { on := 12, ground := .guard }], guard := some (12, false) } ?_
            try simp only [Act.put, List.setIfInBounds_toArray, List.set_cons_zero, List.set_cons_succ]
            refine tu 20 { dst := some 95, op := .binOp .geq 9 (.tmp 92) (.tmp 94) 9, type := 4, pos := "more.go:28", after := #[{ on := 17, ground := .data }, { on := 19, ground := .data }, { on := 12, ground := .guard }], guard := some (12, false) } ?_
            try simp only [Act.put, List.setIfInBounds_toArray, List.set_cons_zero, List.set_cons_succ]
            refine tk 21 { dst := some 96, op := .pick (.tmp 87) (.const (.bool true)) (.tmp 95), type := 4, pos := "more.go:28", after := #[{ on := 12, ground := .data }, { on := 20, ground := .data }], guard := none } _ ?_
            try simp only [Act.put, List.setIfInBounds_toArray, List.set_cons_zero, List.set_cons_succ]
            refine wpAnyH_done (by kernel_rfl) ?_ _
            go_wp2_with fail
            go_roundw
            case rel => exact ⟨i + 1, k, by omega, by go_num, rfl, by omega, by rw [HN.out]; exact hK, p1.drew⟩
            case measure => simp [intOf]; omega
          rcases (show sl x.key lo = true ∨ sl x.key lo = false by cases sl x.key lo <;> simp) with hs1 | hs1
          · rw [hs1] at t1
            have HN : Hid ((cs.take (i + 1)).filterMap (oneScan lo hi ta) = (cs.take i).filterMap (oneScan lo hi ta)) := by rw [HST.out, HNO.out (.inr (.inl hs1))]; simp [Hid]
            clear HST HGT HON HNO hof hs1
            go_upto_region 18 with (fail)
            refine wp_region_held_drew (S := fun wq => wq.cell? ⟨w.heap.size, 0, none⟩ = some (.string lo) ∧ wq.cell? ⟨w.heap.size, 1, none⟩ = some (.string hi) ∧ wq.cell? ⟨w.heap.size + 1, 0, none⟩ = some (.int .i64 ta.wall) ∧ wq.cell? ⟨w.heap.size + 1, 1, none⟩ = some (.int .i64 ta.tie) ∧ wq.cell? ⟨b, o + i * 12, none⟩ = some (.string x.key)) (by kernel_rfl) ?s_1 (fun hHeld => ?_)
            case s_1 => exact HS17.out _ q1.drew
            refine tk 0 { dst := some 75, op := .move (.tmp 14), type := 4, pos := "more.go:28", after := #[], guard := none } _ ?_
            try simp only [Act.put, List.setIfInBounds_toArray, List.set_cons_zero, List.set_cons_succ]
            refine tk 1 { dst := some 76, op := .unOp .not 4 (.tmp 75), type := 4, pos := "more.go:28", after := #[{ on := 0, ground := .data }], guard := none } _ ?_
            try simp only [Act.put, List.setIfInBounds_toArray, List.set_cons_zero, List.set_cons_succ]
            refine tk 2 { dst := some 77, op := .move (.tmp 76), type := 4, pos := "more.go:28", after := #[{ on := 1, ground := .data }], guard := none } _ ?_
            try simp only [Act.put, List.setIfInBounds_toArray, List.set_cons_zero, List.set_cons_succ]
            refine tk 3 { dst := some 78, op := .move (.tmp 7), type := 31, pos := "more.go:28", after := #[{ on := 2, ground := .guard }], guard := some (2, false) } _ ?_
            try simp only [Act.put, List.setIfInBounds_toArray, List.set_cons_zero, List.set_cons_succ]
            refine tk 4 { dst := some 79, op := .move (.tmp 12), type := 3, pos := "more.go:28", after := #[{ on := 2, ground := .guard }], guard := some (2, false) } _ ?_
            try simp only [Act.put, List.setIfInBounds_toArray, List.set_cons_zero, List.set_cons_succ]
            refine tk 5 { dst := some 80, op := .indexAddr 31 (.tmp 78) (.tmp 79), type := 0, pos := "more.go:28", after := #[{ on := 3, ground := .data }, { on := 4, ground := .data }, { on := 2, ground := .guard }], guard := some (2, false) } _ ?_
            try simp only [Act.put, List.setIfInBounds_toArray, List.set_cons_zero, List.set_cons_succ]
            refine tk 6 { dst := some 81, op := .fieldAddr 45 (.tmp 80) 0, type := 0, pos := "more.go:28", after := #[{ on := 5, ground := .data }, { on := 2, ground := .guard }], guard := some (2, false) } _ ?_
            try simp only [Act.put, List.setIfInBounds_toArray, List.set_cons_zero, List.set_cons_succ]
            refine tk 7 { dst := some 82, op := .load 9 (.tmp 81), type := 9, pos := "more.go:28", after := #[{ on := 6, ground := .data }, { on := 2, ground := .guard }], guard := some (2, false) } _ ?_
            try simp only [Act.put, List.setIfInBounds_toArray, List.set_cons_zero, List.set_cons_succ]
            refine tk 8 { dst := some 83, op := .fieldAddr 26 (.tmp 4) 0, type := 0, pos := "more.go:28", after := #[{ on := 2, ground := .guard }], guard := some (2, false) } _ ?_
            try simp only [Act.put, List.setIfInBounds_toArray, List.set_cons_zero, List.set_cons_succ]
            refine tk 9 { dst := some 84, op := .load 9 (.tmp 83), type := 9, pos := "more.go:28", after := #[{ on := 8, ground := .data }, { on := 2, ground := .guard }], guard := some (2, false) } _ ?_
            try simp only [Act.put, List.setIfInBounds_toArray, List.set_cons_zero, List.set_cons_succ]
            refine tk 10 { dst := some 85, op := .binOp .lss 9 (.tmp 82) (.tmp 84) 9, type := 4, pos := "more.go:28", after := #[{ on := 7, ground := .data }, { on := 9, ground := .data }, { on := 2, ground := .guard }], guard := some (2, false) } _ ?_
            try simp only [Act.put, List.setIfInBounds_toArray, List.set_cons_zero, List.set_cons_succ]
            refine tk 11 { dst := some 86, op := .pick (.tmp 77) (.const (.bool true)) (.tmp 85), type := 4, pos := "more.go:28", after := #[{ on := 2, ground := .data }, { on := 10, ground := .data }], guard := none } _ ?_
            try simp only [Act.put, List.setIfInBounds_toArray, List.set_cons_zero, List.set_cons_succ]
            refine tk 12 { dst := some 87, op := .move (.tmp 86), type := 4, pos := "more.go:28", after := #[{ on := 11, ground := .data }, { on := 2, ground := .chain }], guard := none } _ ?_
            try simp only [Act.put, List.setIfInBounds_toArray, List.set_cons_zero, List.set_cons_succ]
            refine tu 13 { dst := some 88, op := .move (.tmp 7), type := 31, pos := "more.go:28", after := #[{ on := 12, ground := .guard }], guard := some (12, false) } ?_
            try simp only [Act.put, List.setIfInBounds_toArray, List.set_cons_zero, List.set_cons_succ]
            refine tu 14 { dst := some 89, op := .move (.tmp 12), type := 3, pos := "more.go:28", after := #[{ on := 12, ground := .guard }], guard := some (12, false) } ?_
            try simp only [Act.put, List.setIfInBounds_toArray, List.set_cons_zero, List.set_cons_succ]
            refine tu 15 { dst := some 90, op := .indexAddr 31 (.tmp 88) (.tmp 89), type := 0, pos := "more.go:28", after := #[{ on := 13, ground := .data }, { on := 14, ground := .data }, { on := 12, ground := .guard }], guard := some (12, false) } ?_
            try simp only [Act.put, List.setIfInBounds_toArray, List.set_cons_zero, List.set_cons_succ]
            refine tu 16 { dst := some 91, op := .fieldAddr 45 (.tmp 90) 0, type := 0, pos := "more.go:28", after := #[{ on := 15, ground := .data }, { on := 12, ground := .guard }], guard := some (12, false) } ?_
            try simp only [Act.put, List.setIfInBounds_toArray, List.set_cons_zero, List.set_cons_succ]
            refine tu 17 { dst := some 92, op := .load 9 (.tmp 91), type := 9, pos := "more.go:28", after := #[{ on := 16, ground := .data }, { on := 12, ground := .guard }], guard := some (12, false) } ?_
            try simp only [Act.put, List.setIfInBounds_toArray, List.set_cons_zero, List.set_cons_succ]
            refine tu 18 { dst := some 93, op := .fieldAddr 26 (.tmp 4) 1, type := 0, pos := "more.go:28", after := #[{ on := 12, ground := .guard }], guard := some (12, false) } ?_
            try simp only [Act.put, List.setIfInBounds_toArray, List.set_cons_zero, List.set_cons_succ]
            refine tu 19 { dst := some 94, op := .load 9 (.tmp 93), type := 9, pos := "more.go:28", after := #[{ on := 18, ground := .data }, { on := 12, ground := .guard }], guard := some (12, false) } ?_
            try simp only [Act.put, List.setIfInBounds_toArray, List.set_cons_zero, List.set_cons_succ]
            refine tu 20 { dst := some 95, op := .binOp .geq 9 (.tmp 92) (.tmp 94) 9, type := 4, pos := "more.go:28", after := #[{ on := 17, ground := .data }, { on := 19, ground := .data }, { on := 12, ground := .guard }], guard := some (12, false) } ?_
            try simp only [Act.put, List.setIfInBounds_toArray, List.set_cons_zero, List.set_cons_succ]
            refine tk 21 { dst := some 96, op := .pick (.tmp 87) (.const (.bool true)) (.tmp 95), type := 4, pos := "more.go:28", after := #[{ on := 12, ground := .data }, { on := 20, ground := .data }], guard := none } _ ?_
            try simp only [Act.put, List.setIfInBounds_toArray, List.set_cons_zero, List.set_cons_succ]
            refine wpAnyH_done (by kernel_rfl) ?_ _
            go_wp2_with fail
            go_roundw
            case rel => exact ⟨i + 1, k, by omega, by go_num, rfl, by omega, by rw [HN.out]; exact hK, p1.drew⟩
            case measure => simp [intOf]; omega
          rcases (show sl x.key hi = false ∨ sl x.key hi = true by cases sl x.key hi <;> simp) with hs2 | hs2
          · rw [hs1] at t1
            rw [hs2] at t2
            have HN : Hid ((cs.take (i + 1)).filterMap (oneScan lo hi ta) = (cs.take i).filterMap (oneScan lo hi ta)) := by rw [HST.out, HNO.out (.inr (.inr hs2))]; simp [Hid]
            clear HST HGT HON HNO hof hs1 hs2
            go_upto_region 18 with (fail)
            refine wp_region_held_drew (S := fun wq => wq.cell? ⟨w.heap.size, 0, none⟩ = some (.string lo) ∧ wq.cell? ⟨w.heap.size, 1, none⟩ = some (.string hi) ∧ wq.cell? ⟨w.heap.size + 1, 0, none⟩ = some (.int .i64 ta.wall) ∧ wq.cell? ⟨w.heap.size + 1, 1, none⟩ = some (.int .i64 ta.tie) ∧ wq.cell? ⟨b, o + i * 12, none⟩ = some (.string x.key)) (by kernel_rfl) ?s_1 (fun hHeld => ?_)
            case s_1 => exact HS17.out _ q1.drew
            refine tk 0 { dst := some 75, op := .move (.tmp 14), type := 4, pos := "more.go:28", after := #[], guard := none } _ ?_
            try simp only [Act.put, List.setIfInBounds_toArray, List.set_cons_zero, List.set_cons_succ]
            refine tk 1 { dst := some 76, op := .unOp .not 4 (.tmp 75), type := 4, pos := "more.go:28", after := #[{ on := 0, ground := .data }], guard := none } _ ?_
            try simp only [Act.put, List.setIfInBounds_toArray, List.set_cons_zero, List.set_cons_succ]
            refine tk 2 { dst := some 77, op := .move (.tmp 76), type := 4, pos := "more.go:28", after := #[{ on := 1, ground := .data }], guard := none } _ ?_
            try simp only [Act.put, List.setIfInBounds_toArray, List.set_cons_zero, List.set_cons_succ]
            refine tk 3 { dst := some 78, op := .move (.tmp 7), type := 31, pos := "more.go:28", after := #[{ on := 2, ground := .guard }], guard := some (2, false) } _ ?_
            try simp only [Act.put, List.setIfInBounds_toArray, List.set_cons_zero, List.set_cons_succ]
            refine tk 4 { dst := some 79, op := .move (.tmp 12), type := 3, pos := "more.go:28", after := #[{ on := 2, ground := .guard }], guard := some (2, false) } _ ?_
            try simp only [Act.put, List.setIfInBounds_toArray, List.set_cons_zero, List.set_cons_succ]
            refine tk 5 { dst := some 80, op := .indexAddr 31 (.tmp 78) (.tmp 79), type := 0, pos := "more.go:28", after := #[{ on := 3, ground := .data }, { on := 4, ground := .data }, { on := 2, ground := .guard }], guard := some (2, false) } _ ?_
            try simp only [Act.put, List.setIfInBounds_toArray, List.set_cons_zero, List.set_cons_succ]
            refine tk 6 { dst := some 81, op := .fieldAddr 45 (.tmp 80) 0, type := 0, pos := "more.go:28", after := #[{ on := 5, ground := .data }, { on := 2, ground := .guard }], guard := some (2, false) } _ ?_
            try simp only [Act.put, List.setIfInBounds_toArray, List.set_cons_zero, List.set_cons_succ]
            refine tk 7 { dst := some 82, op := .load 9 (.tmp 81), type := 9, pos := "more.go:28", after := #[{ on := 6, ground := .data }, { on := 2, ground := .guard }], guard := some (2, false) } _ ?_
            try simp only [Act.put, List.setIfInBounds_toArray, List.set_cons_zero, List.set_cons_succ]
            refine tk 8 { dst := some 83, op := .fieldAddr 26 (.tmp 4) 0, type := 0, pos := "more.go:28", after := #[{ on := 2, ground := .guard }], guard := some (2, false) } _ ?_
            try simp only [Act.put, List.setIfInBounds_toArray, List.set_cons_zero, List.set_cons_succ]
            refine tk 9 { dst := some 84, op := .load 9 (.tmp 83), type := 9, pos := "more.go:28", after := #[{ on := 8, ground := .data }, { on := 2, ground := .guard }], guard := some (2, false) } _ ?_
            try simp only [Act.put, List.setIfInBounds_toArray, List.set_cons_zero, List.set_cons_succ]
            refine tk 10 { dst := some 85, op := .binOp .lss 9 (.tmp 82) (.tmp 84) 9, type := 4, pos := "more.go:28", after := #[{ on := 7, ground := .data }, { on := 9, ground := .data }, { on := 2, ground := .guard }], guard := some (2, false) } _ ?_
            try simp only [Act.put, List.setIfInBounds_toArray, List.set_cons_zero, List.set_cons_succ]
            refine tk 11 { dst := some 86, op := .pick (.tmp 77) (.const (.bool true)) (.tmp 85), type := 4, pos := "more.go:28", after := #[{ on := 2, ground := .data }, { on := 10, ground := .data }], guard := none } _ ?_
            try simp only [Act.put, List.setIfInBounds_toArray, List.set_cons_zero, List.set_cons_succ]
            refine tk 12 { dst := some 87, op := .move (.tmp 86), type := 4, pos := "more.go:28", after := #[{ on := 11, ground := .data }, { on := 2, ground := .chain }], guard := none } _ ?_
            try simp only [Act.put, List.setIfInBounds_toArray, List.set_cons_zero, List.set_cons_succ]
            refine tk 13 { dst := some 88, op := .move (.tmp 7), type := 31, pos := "more.go:28", after := #[{ on := 12, ground := .guard }], guard := some (12, false) } _ ?_
            try simp only [Act.put, List.setIfInBounds_toArray, List.set_cons_zero, List.set_cons_succ]
            refine tk 14 { dst := some 89, op := .move (.tmp 12), type := 3, pos := "more.go:28", after := #[{ on := 12, ground := .guard }], guard := some (12, false) } _ ?_
            try simp only [Act.put, List.setIfInBounds_toArray, List.set_cons_zero, List.set_cons_succ]
            refine tk 15 { dst := some 90, op := .indexAddr 31 (.tmp 88) (.tmp 89), type := 0, pos := "more.go:28", after := #[{ on := 13, ground := .data }, { on := 14, ground := .data }, { on := 12, ground := .guard }], guard := some (12, false) } _ ?_
            try simp only [Act.put, List.setIfInBounds_toArray, List.set_cons_zero, List.set_cons_succ]
            refine tk 16 { dst := some 91, op := .fieldAddr 45 (.tmp 90) 0, type := 0, pos := "more.go:28", after := #[{ on := 15, ground := .data }, { on := 12, ground := .guard }], guard := some (12, false) } _ ?_
            try simp only [Act.put, List.setIfInBounds_toArray, List.set_cons_zero, List.set_cons_succ]
            refine tk 17 { dst := some 92, op := .load 9 (.tmp 91), type := 9, pos := "more.go:28", after := #[{ on := 16, ground := .data }, { on := 12, ground := .guard }], guard := some (12, false) } _ ?_
            try simp only [Act.put, List.setIfInBounds_toArray, List.set_cons_zero, List.set_cons_succ]
            refine tk 18 { dst := some 93, op := .fieldAddr 26 (.tmp 4) 1, type := 0, pos := "more.go:28", after := #[{ on := 12, ground := .guard }], guard := some (12, false) } _ ?_
            try simp only [Act.put, List.setIfInBounds_toArray, List.set_cons_zero, List.set_cons_succ]
            refine tk 19 { dst := some 94, op := .load 9 (.tmp 93), type := 9, pos := "more.go:28", after := #[{ on := 18, ground := .data }, { on := 12, ground := .guard }], guard := some (12, false) } _ ?_
            try simp only [Act.put, List.setIfInBounds_toArray, List.set_cons_zero, List.set_cons_succ]
            refine tk 20 { dst := some 95, op := .binOp .geq 9 (.tmp 92) (.tmp 94) 9, type := 4, pos := "more.go:28", after := #[{ on := 17, ground := .data }, { on := 19, ground := .data }, { on := 12, ground := .guard }], guard := some (12, false) } _ ?_
            try simp only [Act.put, List.setIfInBounds_toArray, List.set_cons_zero, List.set_cons_succ]
            refine tk 21 { dst := some 96, op := .pick (.tmp 87) (.const (.bool true)) (.tmp 95), type := 4, pos := "more.go:28", after := #[{ on := 12, ground := .data }, { on := 20, ground := .data }], guard := none } _ ?_
            try simp only [Act.put, List.setIfInBounds_toArray, List.set_cons_zero, List.set_cons_succ]
            refine wpAnyH_done (by kernel_rfl) ?_ _
            go_wp2_with fail
            go_roundw
            case rel => exact ⟨i + 1, k, by omega, by go_num, rfl, by omega, by rw [HN.out]; exact hK, p1.drew⟩
            case measure => simp [intOf]; omega
          have hone := HON.out d hs1 hs2 rfl
          have hps := HGT.out _ hone
          rw [hK.out, ← HPS.out] at hps
          have hkm : k < m := by have := (List.getElem?_eq_some_iff.1 hps).1; omega
          obtain ⟨g1, p, rfl, _, hg1, hp1, hA1⟩ := HPP.out k hkm
          rw [hps] at hp1
          obtain rfl := Option.some.inj hp1
          have HN : Hid (((cs.take (i + 1)).filterMap (oneScan lo hi ta)).length = k + 1) := by
            rw [HST.out, hone]
            simp [Hid, hK.out]
          have HS19 : Hid (∀ wq, Below z1.heap.size z1 wq → wq.cell? ⟨w.heap.size, 0, none⟩ = some (.string lo) ∧ wq.cell? ⟨w.heap.size, 1, none⟩ = some (.string hi) ∧ wq.cell? ⟨w.heap.size + 1, 0, none⟩ = some (.int .i64 ta.wall) ∧ wq.cell? ⟨w.heap.size + 1, 1, none⟩ = some (.int .i64 ta.tie) ∧ wq.cell? ⟨b, o + i * 12, none⟩ = some (.string x.key) ∧ wq.cell? ⟨g1, k * 2, none⟩ = some (.string x.key) ∧ wq.cell? ⟨g1, k * 2 + 1, none⟩ = some (.string d)) := fun wq hq => by
            have h := HS17.out wq (hZ1.trans (hq.mono hZ1.size))
            exact ⟨h.1, h.2.1, h.2.2.1, h.2.2.2.1, h.2.2.2.2, (hA1.below hg1 hq) 0 _ rfl, (hA1.below hg1 hq) 1 _ rfl⟩
          rw [hs1] at t1
          rw [hs2] at t2
          have hNp := hNP (x.key, d)
          dsimp only at hNp
          have hdk : decide (m ≤ k) = false := decide_eq_false (by omega)
          have hdk2 : decide ((m : Int) ≤ (k : Int)) = false := decide_eq_false (by omega)
          clear HST HGT HON HNO hof hs1 hs2 hps hp1 hA1 hone
          go_upto_region 18 with (fail)
          refine wp_region_held_drew (S := fun wq => wq.cell? ⟨w.heap.size, 0, none⟩ = some (.string lo) ∧ wq.cell? ⟨w.heap.size, 1, none⟩ = some (.string hi) ∧ wq.cell? ⟨w.heap.size + 1, 0, none⟩ = some (.int .i64 ta.wall) ∧ wq.cell? ⟨w.heap.size + 1, 1, none⟩ = some (.int .i64 ta.tie) ∧ wq.cell? ⟨b, o + i * 12, none⟩ = some (.string x.key)) (by kernel_rfl) ?s_1 (fun hHeld => ?_)
          case s_1 => exact HS17.out _ q1.drew
          refine tk 0 { dst := some 75, op := .move (.tmp 14), type := 4, pos := "more.go:28", after := #[], guard := none } _ ?_
          try simp only [Act.put, List.setIfInBounds_toArray, List.set_cons_zero, List.set_cons_succ]
          refine tk 1 { dst := some 76, op := .unOp .not 4 (.tmp 75), type := 4, pos := "more.go:28", after := #[{ on := 0, ground := .data }], guard := none } _ ?_
          try simp only [Act.put, List.setIfInBounds_toArray, List.set_cons_zero, List.set_cons_succ]
          refine tk 2 { dst := some 77, op := .move (.tmp 76), type := 4, pos := "more.go:28", after := #[{ on := 1, ground := .data }], guard := none } _ ?_
          try simp only [Act.put, List.setIfInBounds_toArray, List.set_cons_zero, List.set_cons_succ]
          refine tk 3 { dst := some 78, op := .move (.tmp 7), type := 31, pos := "more.go:28", after := #[{ on := 2, ground := .guard }], guard := some (2, false) } _ ?_
          try simp only [Act.put, List.setIfInBounds_toArray, List.set_cons_zero, List.set_cons_succ]
          refine tk 4 { dst := some 79, op := .move (.tmp 12), type := 3, pos := "more.go:28", after := #[{ on := 2, ground := .guard }], guard := some (2, false) } _ ?_
          try simp only [Act.put, List.setIfInBounds_toArray, List.set_cons_zero, List.set_cons_succ]
          refine tk 5 { dst := some 80, op := .indexAddr 31 (.tmp 78) (.tmp 79), type := 0, pos := "more.go:28", after := #[{ on := 3, ground := .data }, { on := 4, ground := .data }, { on := 2, ground := .guard }], guard := some (2, false) } _ ?_
          try simp only [Act.put, List.setIfInBounds_toArray, List.set_cons_zero, List.set_cons_succ]
          refine tk 6 { dst := some 81, op := .fieldAddr 45 (.tmp 80) 0, type := 0, pos := "more.go:28", after := #[{ on := 5, ground := .data }, { on := 2, ground := .guard }], guard := some (2, false) } _ ?_
          try simp only [Act.put, List.setIfInBounds_toArray, List.set_cons_zero, List.set_cons_succ]
          refine tk 7 { dst := some 82, op := .load 9 (.tmp 81), type := 9, pos := "more.go:28", after := #[{ on := 6, ground := .data }, { on := 2, ground := .guard }], guard := some (2, false) } _ ?_
          try simp only [Act.put, List.setIfInBounds_toArray, List.set_cons_zero, List.set_cons_succ]
          refine tk 8 { dst := some 83, op := .fieldAddr 26 (.tmp 4) 0, type := 0, pos := "more.go:28", after := #[{ on := 2, ground := .guard }], guard := some (2, false) } _ ?_
          try simp only [Act.put, List.setIfInBounds_toArray, List.set_cons_zero, List.set_cons_succ]
          refine tk 9 { dst := some 84, op := .load 9 (.tmp 83), type := 9, pos := "more.go:28", after := #[{ on := 8, ground := .data }, { on := 2, ground := .guard }], guard := some (2, false) } _ ?_
          try simp only [Act.put, List.setIfInBounds_toArray, List.set_cons_zero, List.set_cons_succ]
          refine tk 10 { dst := some 85, op := .binOp .lss 9 (.tmp 82) (.tmp 84) 9, type := 4, pos := "more.go:28", after := #[{ on := 7, ground := .data }, { on := 9, ground := .data }, { on := 2, ground := .guard }], guard := some (2, false) } _ ?_
          try simp only [Act.put, List.setIfInBounds_toArray, List.set_cons_zero, List.set_cons_succ]
          refine tk 11 { dst := some 86, op := .pick (.tmp 77) (.const (.bool true)) (.tmp 85), type := 4, pos := "more.go:28", after := #[{ on := 2, ground := .data }, { on := 10, ground := .data }], guard := none } _ ?_
          try simp only [Act.put, List.setIfInBounds_toArray, List.set_cons_zero, List.set_cons_succ]
          refine tk 12 { dst := some 87, op := .move (.tmp 86), type := 4, pos := "more.go:28", after := #[{ on := 11, ground := .data }, { on := 2, ground := .chain }], guard := none } _ ?_
          try simp only [Act.put, List.setIfInBounds_toArray, List.set_cons_zero, List.set_cons_succ]
          refine tk 13 { dst := some 88, op := .move (.tmp 7), type := 31, pos := "more.go:28", after := #[{ on := 12, ground := .guard }], guard := some (12, false) } _ ?_
          try simp only [Act.put, List.setIfInBounds_toArray, List.set_cons_zero, List.set_cons_succ]
          refine tk 14 { dst := some 89, op := .move (.tmp 12), type := 3, pos := "more.go:28", after := #[{ on := 12, ground := .guard }], guard := some (12, false) } _ ?_
          try simp only [Act.put, List.setIfInBounds_toArray, List.set_cons_zero, List.set_cons_succ]
          refine tk 15 { dst := some 90, op := .indexAddr 31 (.tmp 88) (.tmp 89), type := 0, pos := "more.go:28", after := #[{ on := 13, ground := .data }, { on := 14, ground := .data }, { on := 12, ground := .guard }], guard := some (12, false) } _ ?_
          try simp only [Act.put, List.setIfInBounds_toArray, List.set_cons_zero, List.set_cons_succ]
          refine tk 16 { dst := some 91, op := .fieldAddr 45 (.tmp 90) 0, type := 0, pos := "more.go:28", after := #[{ on := 15, ground := .data }, { on := 12, ground := .guard }], guard := some (12, false) } _ ?_
          try simp only [Act.put, List.setIfInBounds_toArray, List.set_cons_zero, List.set_cons_succ]
          refine tk 17 { dst := some 92, op := .load 9 (.tmp 91), type := 9, pos := "more.go:28", after := #[{ on := 16, ground := .data }, { on := 12, ground := .guard }], guard := some (12, false) } _ ?_
          try simp only [Act.put, List.setIfInBounds_toArray, List.set_cons_zero, List.set_cons_succ]
          refine tk 18 { dst := some 93, op := .fieldAddr 26 (.tmp 4) 1, type := 0, pos := "more.go:28", after := #[{ on := 12, ground := .guard }], guard := some (12, false) } _ ?_
          try simp only [Act.put, List.setIfInBounds_toArray, List.set_cons_zero, List.set_cons_succ]
          refine tk 19 { dst := some 94, op := .load 9 (.tmp 93), type := 9, pos := "more.go:28", after := #[{ on := 18, ground := .data }, { on := 12, ground := .guard }], guard := some (12, false) } _ ?_
          try simp only [Act.put, List.setIfInBounds_toArray, List.set_cons_zero, List.set_cons_succ]
          refine tk 20 { dst := some 95, op := .binOp .geq 9 (.tmp 92) (.tmp 94) 9, type := 4, pos := "more.go:28", after := #[{ on := 17, ground := .data }, { on := 19, ground := .data }, { on := 12, ground := .guard }], guard := some (12, false) } _ ?_
          try simp only [Act.put, List.setIfInBounds_toArray, List.set_cons_zero, List.set_cons_succ]
          refine tk 21 { dst := some 96, op := .pick (.tmp 87) (.const (.bool true)) (.tmp 95), type := 4, pos := "more.go:28", after := #[{ on := 12, ground := .data }, { on := 20, ground := .data }], guard := none } _ ?_
          try simp only [Act.put, List.setIfInBounds_toArray, List.set_cons_zero, List.set_cons_succ]
          refine wpAnyH_done (by kernel_rfl) ?_ _
          go_upto_region 19 with (fail)
          refine wp_region_held_drew (S := fun wq => wq.cell? ⟨w.heap.size, 0, none⟩ = some (.string lo) ∧ wq.cell? ⟨w.heap.size, 1, none⟩ = some (.string hi) ∧ wq.cell? ⟨w.heap.size + 1, 0, none⟩ = some (.int .i64 ta.wall) ∧ wq.cell? ⟨w.heap.size + 1, 1, none⟩ = some (.int .i64 ta.tie) ∧ wq.cell? ⟨b, o + i * 12, none⟩ = some (.string x.key) ∧ wq.cell? ⟨g1, k * 2, none⟩ = some (.string x.key) ∧ wq.cell? ⟨g1, k * 2 + 1, none⟩ = some (.string d)) (by kernel_rfl) ?s_2 (fun hHeld => ?_)
          case s_2 => exact HS19.out _ p1.drew.drew
          refine tk 0 { dst := some 97, op := .move (.tmp 11), type := 3, pos := "more.go:31", after := #[], guard := none } _ ?_
          try simp only [Act.put, List.setIfInBounds_toArray, List.set_cons_zero, List.set_cons_succ]
          refine tk 1 { dst := some 98, op := .move (.tmp 9), type := 53, pos := "more.go:31", after := #[], guard := none } _ ?_
          try simp only [Act.put, List.setIfInBounds_toArray, List.set_cons_zero, List.set_cons_succ]
          refine tk 2 { dst := some 99, op := .call { callee := .builtin .len, args := #[.tmp 98], argTypes := #[53] }, type := 3, pos := "more.go:31", after := #[{ on := 1, ground := .data }], guard := none } _ ?_
          try simp only [Act.put, List.setIfInBounds_toArray, List.set_cons_zero, List.set_cons_succ]
          refine tk 3 { dst := some 100, op := .binOp .geq 3 (.tmp 97) (.tmp 99) 3, type := 4, pos := "more.go:31", after := #[{ on := 0, ground := .data }, { on := 2, ground := .data }], guard := none } _ ?_
          try simp only [Act.put, List.setIfInBounds_toArray, List.set_cons_zero, List.set_cons_succ]
          refine tk 4 { dst := some 101, op := .move (.tmp 100), type := 4, pos := "more.go:31", after := #[{ on := 3, ground := .data }], guard := none } _ ?_
          try simp only [Act.put, List.setIfInBounds_toArray, List.set_cons_zero, List.set_cons_succ]
          refine tk 5 { dst := some 102, op := .move (.tmp 9), type := 53, pos := "more.go:31", after := #[{ on := 4, ground := .guard }], guard := some (4, false) } _ ?_
          try simp only [Act.put, List.setIfInBounds_toArray, List.set_cons_zero, List.set_cons_succ]
          refine tk 6 { dst := some 103, op := .move (.tmp 11), type := 3, pos := "more.go:31", after := #[{ on := 4, ground := .guard }], guard := some (4, false) } _ ?_
          try simp only [Act.put, List.setIfInBounds_toArray, List.set_cons_zero, List.set_cons_succ]
          refine tk 7 { dst := some 104, op := .indexAddr 53 (.tmp 102) (.tmp 103), type := 0, pos := "more.go:31", after := #[{ on := 5, ground := .data }, { on := 6, ground := .data }, { on := 4, ground := .guard }], guard := some (4, false) } _ ?_
          try simp only [Act.put, List.setIfInBounds_toArray, List.set_cons_zero, List.set_cons_succ]
          refine tk 8 { dst := some 105, op := .load 58 (.tmp 104), type := 58, pos := "more.go:31", after := #[{ on := 7, ground := .data }, { on := 4, ground := .guard }], guard := some (4, false) } _ ?_
          try simp only [Act.put, List.setIfInBounds_toArray, List.set_cons_zero, List.set_cons_succ]
          refine tk 9 { dst := some 106, op := .move (.tmp 7), type := 31, pos := "more.go:31", after := #[{ on := 4, ground := .guard }], guard := some (4, false) } _ ?_
          try simp only [Act.put, List.setIfInBounds_toArray, List.set_cons_zero, List.set_cons_succ]
          refine tk 10 { dst := some 107, op := .move (.tmp 12), type := 3, pos := "more.go:31", after := #[{ on := 4, ground := .guard }], guard := some (4, false) } _ ?_
          try simp only [Act.put, List.setIfInBounds_toArray, List.set_cons_zero, List.set_cons_succ]
          refine tk 11 { dst := some 108, op := .indexAddr 31 (.tmp 106) (.tmp 107), type := 0, pos := "more.go:31", after := #[{ on := 9, ground := .data }, { on := 10, ground := .data }, { on := 4, ground := .guard }], guard := some (4, false) } _ ?_
          try simp only [Act.put, List.setIfInBounds_toArray, List.set_cons_zero, List.set_cons_succ]
          refine tk 12 { dst := some 109, op := .fieldAddr 45 (.tmp 108) 0, type := 0, pos := "more.go:31", after := #[{ on := 11, ground := .data }, { on := 4, ground := .guard }], guard := some (4, false) } _ ?_
          try simp only [Act.put, List.setIfInBounds_toArray, List.set_cons_zero, List.set_cons_succ]
          refine tk 13 { dst := some 110, op := .load 9 (.tmp 109), type := 9, pos := "more.go:31", after := #[{ on := 12, ground := .data }, { on := 4, ground := .guard }], guard := some (4, false) } _ ?_
          try simp only [Act.put, List.setIfInBounds_toArray, List.set_cons_zero, List.set_cons_succ]
          refine tk 14 { dst := some 111, op := .move (.tmp 13), type := 9, pos := "more.go:31", after := #[{ on := 4, ground := .guard }], guard := some (4, false) } _ ?_
          try simp only [Act.put, List.setIfInBounds_toArray, List.set_cons_zero, List.set_cons_succ]
          refine tk 15 { dst := some 112, op := .build 58 #[(0, .tmp 110), (1, .tmp 111)], type := 58, pos := "more.go:31", after := #[{ on := 13, ground := .data }, { on := 14, ground := .data }, { on := 4, ground := .guard }], guard := some (4, false) } _ ?_
          try simp only [Act.put, List.setIfInBounds_toArray, List.set_cons_zero, List.set_cons_succ]
          refine tk 16 { dst := some 113, op := .binOp .neq 58 (.tmp 105) (.tmp 112) 58, type := 4, pos := "more.go:31", after := #[{ on := 8, ground := .data }, { on := 15, ground := .data }, { on := 4, ground := .guard }], guard := some (4, false) } _ ?_
          try simp only [Act.put, List.setIfInBounds_toArray, List.set_cons_zero, List.set_cons_succ]
          refine tk 17 { dst := some 114, op := .pick (.tmp 101) (.const (.bool true)) (.tmp 113), type := 4, pos := "more.go:31", after := #[{ on := 4, ground := .data }, { on := 16, ground := .data }], guard := none } _ ?_
          try simp only [Act.put, List.setIfInBounds_toArray, List.set_cons_zero, List.set_cons_succ]
          refine wpAnyH_done (by kernel_rfl) ?_ _
          go_wp2_with fail
          go_roundw
          case rel => exact ⟨i + 1, k + 1, by omega, by go_num, by go_num, by omega, HN, p1.drew.drew⟩
          case measure => simp [intOf]; omega
        · obtain rfl : i = nc := by omega
          have hkm : k = m := by
            have := hK.out
            rw [List.take_of_length_le (by omega), ← HPS.out] at this
            omega
          subst hkm
          obtain ⟨s0, s1, s2, s3⟩ := HS2.out _ r1
          go_wp2_with fail
          refine (C3.out _ r1 _).mono ?_
          rintro e z5 ⟨h5, hZ5⟩
          have r5 := r1.trans (hZ5.mono r1.size)
          rw [hn'] at h5
          by_cases hk0 : k = 0
          · subst hk0
            rcases h5 with ⟨_, A5, c5, rfl, _⟩ | ⟨hno, _⟩
            · go_wp2_with fail
              go_ret
              exact ⟨rfl, HBZ.out.trans (r5.mono HBZ.out.size)⟩
            · exact absurd (by omega) hno
          · rcases h5 with ⟨hno, _⟩ | ⟨_, rfl⟩
            · exact absurd hno (by omega)
            · go_wp2_with fail
              go_ret
              exact ⟨rfl, HBZ.out.trans (r5.mono HBZ.out.size)⟩
end Go.Proofs.Ytlkhmpfdajefiaa.law8
