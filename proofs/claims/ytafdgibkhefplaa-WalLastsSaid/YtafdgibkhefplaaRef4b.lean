/- What the document's disk (antipoderef4) comes to: Clear, Read. Conditions: the disk is a good one (DS.Good). -/
import Derived.Test.YtafdgibkhefplaaRef4
import Derived.Deep.RegionHeld3
namespace Go.Proofs.Ytafdgibkhefplaa.ref4
open Go.RowKit Go.Proofs.Ytafdgibkhefplaa.kit Go.Proofs.Ytafdgibkhefplaa.nums Go.Proofs.Ytafdgibkhefplaa.ds
set_option linter.unusedVariables false

set_option maxRecDepth 100000 in
set_option maxHeartbeats 1000000 in
theorem clear_any (g : Nat) (S : DS) (f : Int) (w : World) (h : IsRef w g S) (hS : S.Good) (hs : S.stepped ≤ 1000000) :
    Calls Try.prog 69 #[.pointer (some ⟨g, 0, none⟩), .int .i64 f] w (RetR w g (S.clearS f) (.int .i64 (S.clearE f))) := by
  have C1 := Lib.hid (may_any g S f w h)
  have C2 := Lib.hid (step_any g S w h hS hs)
  have HI := Lib.hid h
  have hna := hS.na
  have hnb := hS.nb
  have z0 := strOfNums_size S.a
  have z1 := strOfNums_size S.b
  have c0 := h.c0
  have c1 := h.c1
  by_cases hm : S.may f = 0
  · have hf : f = 0 ∨ f = 1 := by
      unfold DS.may at hm
      split at hm
      · omega
      · split at hm
        · assumption
        · omega
    rw [hm] at C1
    rcases hf with rfl | rfl
    · by_cases ha : S.arms = 0
      · have HE := Lib.hid (show S.clearE 0 = 6 by unfold DS.clearE; (try unfold DS.syncE); rw [if_neg (by omega)]; unfold DS.stepE; rw [if_pos ha])
        have HS := Lib.hid (show S.clearS 0 = S.step by unfold DS.clearS; rw [if_neg (by omega), if_pos ha])
        rw [show decide (¬ S.arms = 0) = false by simp [ha]] at C2
        clear hm ha
        go_enter Try.func69, Try.ntmps69
        go_wp2_with fail
        refine C1.out.mono ?_
        rintro e w1 ⟨rfl, rfl⟩
        go_wp2_with fail
        refine C2.out.mono ?_
        rintro e w2 ⟨rfl, hI2, hG2⟩
        go_wp2_with fail
        go_ret
        exact ⟨by rw [HE.out]; rfl, by rw [HS.out]; exact hI2, hG2⟩
      · have HE := Lib.hid (show S.clearE 0 = 0 by unfold DS.clearE; (try unfold DS.syncE); rw [if_neg (by omega)]; unfold DS.stepE; rw [if_neg ha])
        have HS := Lib.hid (show S.clearS 0 = (S.step.setFile 0 []).setLasts 0 0 by unfold DS.clearS; rw [if_neg (by omega), if_neg ha] <;> rfl)
        have HA := Lib.hid (show S.step.a = S.a by unfold DS.step; split <;> rfl)
        rw [show decide (¬ S.arms = 0) = true by simp [ha]] at C2
        clear hm ha
        go_enter Try.func69, Try.ntmps69
        go_wp2_with fail
        refine C1.out.mono ?_
        rintro e w1 ⟨rfl, rfl⟩
        go_wp2_with fail
        refine C2.out.mono ?_
        rintro e w2 ⟨rfl, hI2, hG2⟩
        have d0 := hI2.c0
        rw [HA.out] at d0
        have df := fun i => Blk.frozen hI2 i
        clear c0 c1
        have d1 := hI2.c0
        have d2 := hI2.c2
        have d3 := hI2.c3
        go_wp2_with fail
        refine wp_region_held_drew (S := fun _ => True) (by kernel_rfl) ?s_0 (fun hHeld => ?_)
        case s_0 => trivial
        refine wpAnyH_take (i := 0) (oi := { dst := some 15, op := Go.Op.move (Go.Operand.tmp 0), type := 28, pos := "ref.go:79", after := #[], guard := none }) (v := ?v_0_1) rfl (by kernel_rfl) (by kernel_rfl) (by kernel_rfl) (fun _ _ _ h => h) (Or.inl ⟨by rfl, ?y_0_1⟩) (by assumption) ?_
        case y_0_1 => (intro wq hSw; (try dsimp only at hSw); go_simp; first | done | with_reducible rfl)
        try simp only [Act.put, List.setIfInBounds_toArray, List.set_cons_zero, List.set_cons_succ]
        refine wpAnyH_take (i := 1) (oi := { dst := some 16, op := Go.Op.move (Go.Operand.tmp 1), type := 3, pos := "ref.go:79", after := #[], guard := none }) (v := ?v_1_1) rfl (by kernel_rfl) (by kernel_rfl) (by kernel_rfl) (fun _ _ _ h => h) (Or.inl ⟨by rfl, ?y_1_1⟩) (by assumption) ?_
        case y_1_1 => (intro wq hSw; (try dsimp only at hSw); go_simp; first | done | with_reducible rfl)
        try simp only [Act.put, List.setIfInBounds_toArray, List.set_cons_zero, List.set_cons_succ]
        refine wpAnyH_take (i := 2) (oi := { dst := some 17, op := Go.Op.move (Go.Operand.tmp 0), type := 28, pos := "ref.go:79", after := #[{ on := 7, ground := Go.Ground.gcOnly Go.Departure.lateStores }], guard := none }) (v := ?v_2_1) rfl (by kernel_rfl) (by kernel_rfl) (by kernel_rfl) (fun _ _ _ h => h) (Or.inl ⟨by rfl, ?y_2_1⟩) (by assumption) ?_
        case y_2_1 => (intro wq hSw; (try dsimp only at hSw); go_simp; first | done | with_reducible rfl)
        try simp only [Act.put, List.setIfInBounds_toArray, List.set_cons_zero, List.set_cons_succ]
        refine wpAnyH_take (i := 3) (oi := { dst := some 18, op := Go.Op.move (Go.Operand.tmp 1), type := 3, pos := "ref.go:79", after := #[{ on := 7, ground := Go.Ground.gcOnly Go.Departure.lateStores }], guard := none }) (v := ?v_3_1) rfl (by kernel_rfl) (by kernel_rfl) (by kernel_rfl) (fun _ _ _ h => h) (Or.inl ⟨by rfl, ?y_3_1⟩) (by assumption) ?_
        case y_3_1 => (intro wq hSw; (try dsimp only at hSw); go_simp; first | done | with_reducible rfl)
        try simp only [Act.put, List.setIfInBounds_toArray, List.set_cons_zero, List.set_cons_succ]
        refine wpAnyH_take (i := 4) (oi := { dst := some 19, op := Go.Op.nilCheck (Go.Operand.tmp 15), type := 0, pos := "ref.go:79", after := #[{ on := 0, ground := Go.Ground.data }], guard := none }) (v := ?v_4_1) rfl (by kernel_rfl) (by kernel_rfl) (by kernel_rfl) (fun _ _ _ h => h) (Or.inl ⟨by rfl, ?y_4_1⟩) (by assumption) ?_
        case y_4_1 => (intro wq hSw; (try dsimp only at hSw); go_simp; first | done | with_reducible rfl)
        try simp only [Act.put, List.setIfInBounds_toArray, List.set_cons_zero, List.set_cons_succ]
        refine wpAnyH_take (i := 5) (oi := { dst := some 20, op := Go.Op.fieldAddr 76 (Go.Operand.tmp 19) 0, type := 0, pos := "ref.go:79", after := #[{ on := 4, ground := Go.Ground.data }], guard := none }) (v := ?v_5_1) rfl (by kernel_rfl) (by kernel_rfl) (by kernel_rfl) (fun _ _ _ h => h) (Or.inl ⟨by rfl, ?y_5_1⟩) (by assumption) ?_
        case y_5_1 => (intro wq hSw; (try dsimp only at hSw); go_simp; first | done | with_reducible rfl)
        try simp only [Act.put, List.setIfInBounds_toArray, List.set_cons_zero, List.set_cons_succ]
        refine wpAnyH_take (i := 6) (oi := { dst := some 21, op := Go.Op.indexAddr 73 (Go.Operand.tmp 20) (Go.Operand.tmp 16), type := 0, pos := "ref.go:79", after := #[{ on := 5, ground := Go.Ground.data }, { on := 1, ground := Go.Ground.data }, { on := 0, ground := Go.Ground.phase }, { on := 1, ground := Go.Ground.phase }, { on := 2, ground := Go.Ground.textOnly Go.Departure.lateStores }, { on := 3, ground := Go.Ground.textOnly Go.Departure.lateStores }], guard := none }) (v := ?v_6_1) rfl (by kernel_rfl) (by kernel_rfl) (by kernel_rfl) (fun _ _ _ h => h) (Or.inl ⟨by rfl, ?y_6_1⟩) (by assumption) ?_
        case y_6_1 => (intro wq hSw; (try dsimp only at hSw); go_simp; first | done | with_reducible rfl)
        try simp only [Act.put, List.setIfInBounds_toArray, List.set_cons_zero, List.set_cons_succ]
        refine wpAnyH_take (i := 8) (oi := { dst := some 22, op := Go.Op.nilCheck (Go.Operand.tmp 17), type := 0, pos := "ref.go:79", after := #[{ on := 2, ground := Go.Ground.data }], guard := none }) (v := ?v_8_1) rfl (by kernel_rfl) (by kernel_rfl) (by kernel_rfl) (fun _ _ _ h => h) (Or.inl ⟨by rfl, ?y_8_1⟩) (by assumption) ?_
        case y_8_1 => (intro wq hSw; (try dsimp only at hSw); go_simp; first | done | with_reducible rfl)
        try simp only [Act.put, List.setIfInBounds_toArray, List.set_cons_zero, List.set_cons_succ]
        refine wpAnyH_take (i := 9) (oi := { dst := some 23, op := Go.Op.fieldAddr 76 (Go.Operand.tmp 22) 1, type := 0, pos := "ref.go:79", after := #[{ on := 8, ground := Go.Ground.data }], guard := none }) (v := ?v_9_1) rfl (by kernel_rfl) (by kernel_rfl) (by kernel_rfl) (fun _ _ _ h => h) (Or.inl ⟨by rfl, ?y_9_1⟩) (by assumption) ?_
        case y_9_1 => (intro wq hSw; (try dsimp only at hSw); go_simp; first | done | with_reducible rfl)
        try simp only [Act.put, List.setIfInBounds_toArray, List.set_cons_zero, List.set_cons_succ]
        refine wpAnyH_ready (rs := [7]) (by kernel_rfl) (by simp) ?_
        refine AllReadyH.cons (o := { dst := none, op := Go.Op.store 9 (Go.Operand.tmp 21) (Go.Operand.const (Go.Value.string { data := #[] })), type := 0, pos := "ref.go:79", after := #[{ on := 6, ground := Go.Ground.data }, { on := 0, ground := Go.Ground.phase }, { on := 1, ground := Go.Ground.phase }, { on := 2, ground := Go.Ground.textOnly Go.Departure.lateStores }, { on := 3, ground := Go.Ground.textOnly Go.Departure.lateStores }], guard := none }) rfl (fun KQ hKQ => ?_) AllReadyH.nil
        go_simp
        refine hKQ.out _ _ ?s_7 (fun hHeld7 => ?_)
        case s_7 => trivial
        clear hKQ KQ
        try simp only [Act.put]
        refine wpAnyH_take (i := 10) (oi := { dst := some 24, op := Go.Op.indexAddr 74 (Go.Operand.tmp 23) (Go.Operand.tmp 18), type := 0, pos := "ref.go:79", after := #[{ on := 9, ground := Go.Ground.data }, { on := 3, ground := Go.Ground.data }, { on := 0, ground := Go.Ground.phase }, { on := 1, ground := Go.Ground.phase }, { on := 2, ground := Go.Ground.phase }, { on := 3, ground := Go.Ground.phase }, { on := 4, ground := Go.Ground.phase }, { on := 5, ground := Go.Ground.phase }, { on := 6, ground := Go.Ground.phase }, { on := 7, ground := Go.Ground.phase }], guard := none }) (v := ?v_10_1) rfl (by kernel_rfl) (by kernel_rfl) (by kernel_rfl) (fun _ _ _ h => h) (Or.inl ⟨by rfl, ?y_10_1⟩) (by assumption) ?_
        case y_10_1 => (intro wq hSw; (try dsimp only at hSw); go_simp; first | done | with_reducible rfl)
        try simp only [Act.put, List.setIfInBounds_toArray, List.set_cons_zero, List.set_cons_succ]
        refine wpAnyH_ready (rs := [11]) (by kernel_rfl) (by simp) ?_
        refine AllReadyH.cons (o := { dst := none, op := Go.Op.store 3 (Go.Operand.tmp 24) (Go.Operand.const (Go.Value.int Go.IntKind.i64 0)), type := 0, pos := "ref.go:79", after := #[{ on := 10, ground := Go.Ground.data }, { on := 7, ground := Go.Ground.chain }, { on := 0, ground := Go.Ground.phase }, { on := 1, ground := Go.Ground.phase }, { on := 2, ground := Go.Ground.phase }, { on := 3, ground := Go.Ground.phase }, { on := 4, ground := Go.Ground.phase }, { on := 5, ground := Go.Ground.phase }, { on := 6, ground := Go.Ground.phase }, { on := 7, ground := Go.Ground.phase }], guard := none }) rfl (fun KQ hKQ => ?_) AllReadyH.nil
        go_simp
        refine hKQ.out _ _ ?s_11 (fun hHeld11 => ?_)
        case s_11 => trivial
        clear hKQ KQ
        try simp only [Act.put]
        refine wpAnyH_done (by kernel_rfl) ?_ _
        go_wp2_with fail
        go_ret
        refine ⟨by rw [HE.out]; rfl, ?_, grown_trans (grown_trans (grown_trans hG2 (grown_set _ _ _ _)) (grown_set _ _ _ _)) ⟨rfl, rfl, rfl, Nat.le_refl _, fun _ _ _ => rfl⟩⟩
        rw [HS.out]
        exact IsRef.set (w := w2.setCell ⟨g, 0, none⟩ (.string ⟨#[]⟩)) (S := S.step.setFile 0 []) (IsRef.set (w := w2) hI2 0 _ (by simp [refV, DS.setFile, strOfNums])) 2 _ (by simp [refV, DS.setLasts, DS.setFile])
    · by_cases ha : S.arms = 0
      · have HE := Lib.hid (show S.clearE 1 = 6 by unfold DS.clearE; (try unfold DS.syncE); rw [if_neg (by omega)]; unfold DS.stepE; rw [if_pos ha])
        have HS := Lib.hid (show S.clearS 1 = S.step by unfold DS.clearS; rw [if_neg (by omega), if_pos ha])
        rw [show decide (¬ S.arms = 0) = false by simp [ha]] at C2
        clear hm ha
        go_enter Try.func69, Try.ntmps69
        go_wp2_with fail
        refine C1.out.mono ?_
        rintro e w1 ⟨rfl, rfl⟩
        go_wp2_with fail
        refine C2.out.mono ?_
        rintro e w2 ⟨rfl, hI2, hG2⟩
        go_wp2_with fail
        go_ret
        exact ⟨by rw [HE.out]; rfl, by rw [HS.out]; exact hI2, hG2⟩
      · have HE := Lib.hid (show S.clearE 1 = 0 by unfold DS.clearE; (try unfold DS.syncE); rw [if_neg (by omega)]; unfold DS.stepE; rw [if_neg ha])
        have HS := Lib.hid (show S.clearS 1 = (S.step.setFile 1 []).setLasts 1 0 by unfold DS.clearS; rw [if_neg (by omega), if_neg ha] <;> rfl)
        have HA := Lib.hid (show S.step.b = S.b by unfold DS.step; split <;> rfl)
        rw [show decide (¬ S.arms = 0) = true by simp [ha]] at C2
        clear hm ha
        go_enter Try.func69, Try.ntmps69
        go_wp2_with fail
        refine C1.out.mono ?_
        rintro e w1 ⟨rfl, rfl⟩
        go_wp2_with fail
        refine C2.out.mono ?_
        rintro e w2 ⟨rfl, hI2, hG2⟩
        have d0 := hI2.c1
        rw [HA.out] at d0
        have df := fun i => Blk.frozen hI2 i
        clear c0 c1
        have d1 := hI2.c1
        have d2 := hI2.c2
        have d3 := hI2.c3
        go_wp2_with fail
        refine wp_region_held_drew (S := fun _ => True) (by kernel_rfl) ?s_0 (fun hHeld => ?_)
        case s_0 => trivial
        refine wpAnyH_take (i := 0) (oi := { dst := some 15, op := Go.Op.move (Go.Operand.tmp 0), type := 28, pos := "ref.go:79", after := #[], guard := none }) (v := ?v_0_2) rfl (by kernel_rfl) (by kernel_rfl) (by kernel_rfl) (fun _ _ _ h => h) (Or.inl ⟨by rfl, ?y_0_2⟩) (by assumption) ?_
        case y_0_2 => (intro wq hSw; (try dsimp only at hSw); go_simp; first | done | with_reducible rfl)
        try simp only [Act.put, List.setIfInBounds_toArray, List.set_cons_zero, List.set_cons_succ]
        refine wpAnyH_take (i := 1) (oi := { dst := some 16, op := Go.Op.move (Go.Operand.tmp 1), type := 3, pos := "ref.go:79", after := #[], guard := none }) (v := ?v_1_2) rfl (by kernel_rfl) (by kernel_rfl) (by kernel_rfl) (fun _ _ _ h => h) (Or.inl ⟨by rfl, ?y_1_2⟩) (by assumption) ?_
        case y_1_2 => (intro wq hSw; (try dsimp only at hSw); go_simp; first | done | with_reducible rfl)
        try simp only [Act.put, List.setIfInBounds_toArray, List.set_cons_zero, List.set_cons_succ]
        refine wpAnyH_take (i := 2) (oi := { dst := some 17, op := Go.Op.move (Go.Operand.tmp 0), type := 28, pos := "ref.go:79", after := #[{ on := 7, ground := Go.Ground.gcOnly Go.Departure.lateStores }], guard := none }) (v := ?v_2_2) rfl (by kernel_rfl) (by kernel_rfl) (by kernel_rfl) (fun _ _ _ h => h) (Or.inl ⟨by rfl, ?y_2_2⟩) (by assumption) ?_
        case y_2_2 => (intro wq hSw; (try dsimp only at hSw); go_simp; first | done | with_reducible rfl)
        try simp only [Act.put, List.setIfInBounds_toArray, List.set_cons_zero, List.set_cons_succ]
        refine wpAnyH_take (i := 3) (oi := { dst := some 18, op := Go.Op.move (Go.Operand.tmp 1), type := 3, pos := "ref.go:79", after := #[{ on := 7, ground := Go.Ground.gcOnly Go.Departure.lateStores }], guard := none }) (v := ?v_3_2) rfl (by kernel_rfl) (by kernel_rfl) (by kernel_rfl) (fun _ _ _ h => h) (Or.inl ⟨by rfl, ?y_3_2⟩) (by assumption) ?_
        case y_3_2 => (intro wq hSw; (try dsimp only at hSw); go_simp; first | done | with_reducible rfl)
        try simp only [Act.put, List.setIfInBounds_toArray, List.set_cons_zero, List.set_cons_succ]
        refine wpAnyH_take (i := 4) (oi := { dst := some 19, op := Go.Op.nilCheck (Go.Operand.tmp 15), type := 0, pos := "ref.go:79", after := #[{ on := 0, ground := Go.Ground.data }], guard := none }) (v := ?v_4_2) rfl (by kernel_rfl) (by kernel_rfl) (by kernel_rfl) (fun _ _ _ h => h) (Or.inl ⟨by rfl, ?y_4_2⟩) (by assumption) ?_
        case y_4_2 => (intro wq hSw; (try dsimp only at hSw); go_simp; first | done | with_reducible rfl)
        try simp only [Act.put, List.setIfInBounds_toArray, List.set_cons_zero, List.set_cons_succ]
        refine wpAnyH_take (i := 5) (oi := { dst := some 20, op := Go.Op.fieldAddr 76 (Go.Operand.tmp 19) 0, type := 0, pos := "ref.go:79", after := #[{ on := 4, ground := Go.Ground.data }], guard := none }) (v := ?v_5_2) rfl (by kernel_rfl) (by kernel_rfl) (by kernel_rfl) (fun _ _ _ h => h) (Or.inl ⟨by rfl, ?y_5_2⟩) (by assumption) ?_
        case y_5_2 => (intro wq hSw; (try dsimp only at hSw); go_simp; first | done | with_reducible rfl)
        try simp only [Act.put, List.setIfInBounds_toArray, List.set_cons_zero, List.set_cons_succ]
        refine wpAnyH_take (i := 6) (oi := { dst := some 21, op := Go.Op.indexAddr 73 (Go.Operand.tmp 20) (Go.Operand.tmp 16), type := 0, pos := "ref.go:79", after := #[{ on := 5, ground := Go.Ground.data }, { on := 1, ground := Go.Ground.data }, { on := 0, ground := Go.Ground.phase }, { on := 1, ground := Go.Ground.phase }, { on := 2, ground := Go.Ground.textOnly Go.Departure.lateStores }, { on := 3, ground := Go.Ground.textOnly Go.Departure.lateStores }], guard := none }) (v := ?v_6_2) rfl (by kernel_rfl) (by kernel_rfl) (by kernel_rfl) (fun _ _ _ h => h) (Or.inl ⟨by rfl, ?y_6_2⟩) (by assumption) ?_
        case y_6_2 => (intro wq hSw; (try dsimp only at hSw); go_simp; first | done | with_reducible rfl)
        try simp only [Act.put, List.setIfInBounds_toArray, List.set_cons_zero, List.set_cons_succ]
        refine wpAnyH_take (i := 8) (oi := { dst := some 22, op := Go.Op.nilCheck (Go.Operand.tmp 17), type := 0, pos := "ref.go:79", after := #[{ on := 2, ground := Go.Ground.data }], guard := none }) (v := ?v_8_2) rfl (by kernel_rfl) (by kernel_rfl) (by kernel_rfl) (fun _ _ _ h => h) (Or.inl ⟨by rfl, ?y_8_2⟩) (by assumption) ?_
        case y_8_2 => (intro wq hSw; (try dsimp only at hSw); go_simp; first | done | with_reducible rfl)
        try simp only [Act.put, List.setIfInBounds_toArray, List.set_cons_zero, List.set_cons_succ]
        refine wpAnyH_take (i := 9) (oi := { dst := some 23, op := Go.Op.fieldAddr 76 (Go.Operand.tmp 22) 1, type := 0, pos := "ref.go:79", after := #[{ on := 8, ground := Go.Ground.data }], guard := none }) (v := ?v_9_2) rfl (by kernel_rfl) (by kernel_rfl) (by kernel_rfl) (fun _ _ _ h => h) (Or.inl ⟨by rfl, ?y_9_2⟩) (by assumption) ?_
        case y_9_2 => (intro wq hSw; (try dsimp only at hSw); go_simp; first | done | with_reducible rfl)
        try simp only [Act.put, List.setIfInBounds_toArray, List.set_cons_zero, List.set_cons_succ]
        refine wpAnyH_ready (rs := [7]) (by kernel_rfl) (by simp) ?_
        refine AllReadyH.cons (o := { dst := none, op := Go.Op.store 9 (Go.Operand.tmp 21) (Go.Operand.const (Go.Value.string { data := #[] })), type := 0, pos := "ref.go:79", after := #[{ on := 6, ground := Go.Ground.data }, { on := 0, ground := Go.Ground.phase }, { on := 1, ground := Go.Ground.phase }, { on := 2, ground := Go.Ground.textOnly Go.Departure.lateStores }, { on := 3, ground := Go.Ground.textOnly Go.Departure.lateStores }], guard := none }) rfl (fun KQ hKQ => ?_) AllReadyH.nil
        go_simp
        refine hKQ.out _ _ ?s_7 (fun hHeld7 => ?_)
        case s_7 => trivial
        clear hKQ KQ
        try simp only [Act.put]
        refine wpAnyH_take (i := 10) (oi := { dst := some 24, op := Go.Op.indexAddr 74 (Go.Operand.tmp 23) (Go.Operand.tmp 18), type := 0, pos := "ref.go:79", after := #[{ on := 9, ground := Go.Ground.data }, { on := 3, ground := Go.Ground.data }, { on := 0, ground := Go.Ground.phase }, { on := 1, ground := Go.Ground.phase }, { on := 2, ground := Go.Ground.phase }, { on := 3, ground := Go.Ground.phase }, { on := 4, ground := Go.Ground.phase }, { on := 5, ground := Go.Ground.phase }, { on := 6, ground := Go.Ground.phase }, { on := 7, ground := Go.Ground.phase }], guard := none }) (v := ?v_10_2) rfl (by kernel_rfl) (by kernel_rfl) (by kernel_rfl) (fun _ _ _ h => h) (Or.inl ⟨by rfl, ?y_10_2⟩) (by assumption) ?_
        case y_10_2 => (intro wq hSw; (try dsimp only at hSw); go_simp; first | done | with_reducible rfl)
        try simp only [Act.put, List.setIfInBounds_toArray, List.set_cons_zero, List.set_cons_succ]
        refine wpAnyH_ready (rs := [11]) (by kernel_rfl) (by simp) ?_
        refine AllReadyH.cons (o := { dst := none, op := Go.Op.store 3 (Go.Operand.tmp 24) (Go.Operand.const (Go.Value.int Go.IntKind.i64 0)), type := 0, pos := "ref.go:79", after := #[{ on := 10, ground := Go.Ground.data }, { on := 7, ground := Go.Ground.chain }, { on := 0, ground := Go.Ground.phase }, { on := 1, ground := Go.Ground.phase }, { on := 2, ground := Go.Ground.phase }, { on := 3, ground := Go.Ground.phase }, { on := 4, ground := Go.Ground.phase }, { on := 5, ground := Go.Ground.phase }, { on := 6, ground := Go.Ground.phase }, { on := 7, ground := Go.Ground.phase }], guard := none }) rfl (fun KQ hKQ => ?_) AllReadyH.nil
        go_simp
        refine hKQ.out _ _ ?s_11 (fun hHeld11 => ?_)
        case s_11 => trivial
        clear hKQ KQ
        try simp only [Act.put]
        refine wpAnyH_done (by kernel_rfl) ?_ _
        go_wp2_with fail
        go_ret
        refine ⟨by rw [HE.out]; rfl, ?_, grown_trans (grown_trans (grown_trans hG2 (grown_set _ _ _ _)) (grown_set _ _ _ _)) ⟨rfl, rfl, rfl, Nat.le_refl _, fun _ _ _ => rfl⟩⟩
        rw [HS.out]
        exact IsRef.set (w := w2.setCell ⟨g, 1, none⟩ (.string ⟨#[]⟩)) (S := S.step.setFile 1 []) (IsRef.set (w := w2) hI2 1 _ (by simp [refV, DS.setFile, strOfNums])) 3 _ (by simp [refV, DS.setLasts, DS.setFile])
  · have HE := Lib.hid (show S.clearE f = S.may f by unfold DS.clearE; (try unfold DS.syncE); rw [if_pos hm])
    have HS := Lib.hid (show S.clearS f = S by unfold DS.clearS; rw [if_pos hm])
    obtain ⟨x, hx⟩ : ∃ x, S.may f = x := ⟨_, rfl⟩
    rw [hx] at hm C1
    have HX := Lib.hid hx
    have hxx : (x != 0) = true := by simpa using hm
    clear hx
    go_enter Try.func69, Try.ntmps69
    go_wp2_with fail
    refine C1.out.mono ?_
    rintro e w1 ⟨rfl, rfl⟩
    go_wp2_with fail
    go_ret
    exact ⟨by rw [HE.out, HX.out]; rfl, by rw [HS.out]; exact HI.out, World.grownBy.refl _ _⟩

set_option maxRecDepth 100000 in
set_option maxHeartbeats 1000000 in
theorem read_any (g : Nat) (S : DS) (f : Int) (w : World) (h : IsRef w g S) :
    Calls Try.prog 46 #[.pointer (some ⟨g, 0, none⟩), .int .i64 f] w fun e w' => e = .returned (.tuple #[.string (strOfNums (S.readL f)), .int .i64 (S.may f)]) ∧ w = w' := by
  have C1 := Lib.hid (may_any g S f w h)
  have c0 := h.c0
  have c1 := h.c1
  by_cases hm : S.may f = 0
  · have hf : f = 0 ∨ f = 1 := by
      unfold DS.may at hm
      split at hm
      · omega
      · split at hm
        · assumption
        · omega
    have HL := Lib.hid (show S.readL f = S.file f by unfold DS.readL; rw [if_neg (by omega)])
    have HM := Lib.hid hm
    rw [hm] at C1
    clear hm
    rcases hf with rfl | rfl
    all_goals
      go_enter Try.func46, Try.ntmps46
      go_wp2_with fail
      refine C1.out.mono ?_
      rintro e w1 ⟨rfl, rfl⟩
      go_wp2_with fail
      go_ret2
      exact ⟨by rw [HL.out, HM.out]; rfl, rfl⟩
  · have HL := Lib.hid (show S.readL f = [] by unfold DS.readL; rw [if_pos hm])
    obtain ⟨x, hx⟩ : ∃ x, S.may f = x := ⟨_, rfl⟩
    rw [hx] at hm C1
    have HX := Lib.hid hx
    have hxx : (x != 0) = true := by simpa using hm
    clear hx
    go_enter Try.func46, Try.ntmps46
    go_wp2_with fail
    refine C1.out.mono ?_
    rintro e w1 ⟨rfl, rfl⟩
    go_wp2_with fail
    go_ret2
    exact ⟨by rw [HL.out, HX.out]; rfl, rfl⟩
end Go.Proofs.Ytafdgibkhefplaa.ref4
