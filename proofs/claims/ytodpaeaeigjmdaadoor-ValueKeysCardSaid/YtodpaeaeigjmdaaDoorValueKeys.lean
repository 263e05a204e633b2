/- Keys of values that may be stand in their order, and none is the beginning of another one (ValueKeys): true of every input. -/
import Derived.Test.YtodpaeaeigjmdaaDoorValLaw
import Derived.Test.YtodpaeaeigjmdaaDoorVaEq
namespace Go.Proofs.YtodpaeaeigjmdaaDoor.law7
open Go Go.RowKit Go.Proofs.YtodpaeaeigjmdaaDoor.kit Go.Proofs.YtodpaeaeigjmdaaDoor.nums Go.Proofs.YtodpaeaeigjmdaaDoor.st Go.Proofs.YtodpaeaeigjmdaaDoor.va Go.Proofs.YtodpaeaeigjmdaaDoor.ref7 Go.Proofs.YtodpaeaeigjmdaaDoor.bytes Go.Proofs.YtodpaeaeigjmdaaDoor.libw
set_option linter.unusedVariables false

theorem small_of_may {a : VaL} (hm : mayP a) : a.s.length ≤ 64 := by
  unfold mayP at hm
  rcases hm with ⟨_, _, h⟩ | ⟨_, _, h⟩ | ⟨_, h⟩ | ⟨_, _, h⟩
  · rw [h]; decide
  · rw [h]; decide
  · rw [h]; decide
  · exact h
set_option maxRecDepth 100000 in
set_option maxHeartbeats 4000000 in
theorem keys_walk (a b : VaL) (w : World) (ha : a.ok ∧ (a.s.length : Int) ≤ 9223372036854775807) (hb : b.ok ∧ (b.s.length : Int) ≤ 9223372036854775807) (hw : LibW w) :
    Calls Tryd.prog 5 #[vaV a, vaV b] w fun e w' => e = .returned (.bool true) ∧ Below w.heap.size w w' := by
  have BG := Lib.hid (fun wq (h : Below w.heap.size w wq) => begun_any wq (hw.on h))
  clear hw
  have MA := Lib.hid (fun w => val.may_any a ha.1 ha.2 w)
  have MB := Lib.hid (fun w => val.may_any b hb.1 hb.2 w)
  have CAB := Lib.hid (fun w => val.cmp_any a b ha.1 hb.1 w)
  have ST := Lib.hid (fun w => eq_va a b ha.1 hb.1 w)
  have KA := Lib.hid (fun (hm : mayP a) w => val.key_any none 0 0 [] a w (Rd.nil _ _ _) (by omega) (by unfold maxLen; omega) (by omega) (by have := small_of_may hm; omega) ha.1)
  have KB := Lib.hid (fun (hm : mayP b) w => val.key_any none 0 0 [] b w (Rd.nil _ _ _) (by omega) (by unfold maxLen; omega) (by omega) (by have := small_of_may hm; omega) hb.1)
  have HL := Lib.hid (keys_line a b ha.1 hb.1)
  have hka := keyF_byt a ha.1
  have hkb := keyF_byt b hb.1
  have hLS := str_less (keyF a) (keyF b) hka.1 hkb.1
  have hEQ := str_eq (keyF a) (keyF b) hka.1 hkb.1
  have HTK := Lib.hid (fun n => (str_eq ((keyF a).take n) ((keyF b).take n) (hka.1.take n) (hkb.1.take n)))
  have HXA := Lib.hid (fun n => str_extract (keyF a) n)
  have HXB := Lib.hid (fun n => str_extract (keyF b) n)
  obtain ⟨hka1, hkal⟩ := hka
  obtain ⟨hkb1, hkbl⟩ := hkb
  have hza := strOfNums_size (keyF a)
  have hzb := strOfNums_size (keyF b)
  clear ha hb hka1 hkb1
  generalize keyF a = X at *
  generalize keyF b = Z at *
  obtain ⟨x, hx⟩ : ∃ x, cmpV a b = x := ⟨_, rfl⟩
  rw [hx] at CAB HL
  clear hx
  obtain ⟨ma, hma⟩ : ∃ m, decide (mayP a) = m := ⟨_, rfl⟩
  obtain ⟨mb, hmb⟩ : ∃ m, decide (mayP b) = m := ⟨_, rfl⟩
  rw [hma] at MA
  rw [hmb] at MB
  have HMA : Hid (ma = true → mayP a) := fun h => by rw [h] at hma; simpa using hma
  have HMB : Hid (mb = true → mayP b) := fun h => by rw [h] at hmb; simpa using hmb
  clear hma hmb
  have hAB : Hid (∀ c : Bool, decide (a = b) = c → ∀ w, (binOp BinOp.eql 24 (vaV a) (vaV b)).run Tryd.prog w = .ok (.bool c) w) := fun c h w => by rw [← h]; exact ST.out w
  clear ST
  obtain ⟨eab, heab⟩ : ∃ c, decide (a = b) = c := ⟨_, rfl⟩
  have hST := hAB.out eab heab
  rw [heab] at HL
  have HL2 : Hid (mayP a → mayP b → (decide (x < 0) = lexB X Z) ∧ (decide (x = 0) = decide (X = Z)) ∧ (decide (x = 0) = eab) ∧ (eab = true ∨ ∀ n, n = min X.length Z.length → X.take n ≠ Z.take n)) := fun h1 h2 => by
    obtain ⟨g1, g2, g3, g4⟩ := HL.out h1 h2
    refine ⟨g1, g2, g3, ?_⟩
    rcases g4 with g4 | g4
    · left; rw [← heab]; simp [g4]
    · exact .inr g4
  clear heab hAB HL
  have HST := Lib.hid hST
  clear hST
  obtain ⟨ka, na, sa⟩ := a
  obtain ⟨kb, nb, sb⟩ := b
  unfold vaV at *
  dsimp only at MA MB CAB KA KB HST ⊢
  generalize strOfNums sa = Ta at *
  generalize strOfNums sb = Tb at *
  have hB0 : Hid (Below w.heap.size w ((w.alloc (.cells #[.int .i64 ka, .int .i64 na, .string Ta] 24)).alloc (.cells #[.int .i64 kb, .int .i64 nb, .string Tb] 24))) := (((Below.refl _ _).alloc (Nat.le_refl _) _).alloc (by simp) _)
  have HC : Hid (∀ wq, Below ((w.alloc (.cells #[.int .i64 ka, .int .i64 na, .string Ta] 24)).alloc (.cells #[.int .i64 kb, .int .i64 nb, .string Tb] 24)).heap.size ((w.alloc (.cells #[.int .i64 ka, .int .i64 na, .string Ta] 24)).alloc (.cells #[.int .i64 kb, .int .i64 nb, .string Tb] 24)) wq → (wq.cell? ⟨w.heap.size, 0, none⟩ = some (.int .i64 ka) ∧ wq.cell? ⟨w.heap.size, 1, none⟩ = some (.int .i64 na) ∧ wq.cell? ⟨w.heap.size, 2, none⟩ = some (.string Ta)) ∧ wq.cell? ⟨w.heap.size + 1, 0, none⟩ = some (.int .i64 kb) ∧ wq.cell? ⟨w.heap.size + 1, 1, none⟩ = some (.int .i64 nb) ∧ wq.cell? ⟨w.heap.size + 1, 2, none⟩ = some (.string Tb)) := fun wq hq => by
    have k0 : Blk 24 ((w.alloc (.cells #[.int .i64 ka, .int .i64 na, .string Ta] 24)).alloc (.cells #[.int .i64 kb, .int .i64 nb, .string Tb] 24)) w.heap.size [.int .i64 ka, .int .i64 na, .string Ta] := Blk.alloc (heap_alloc_new w _) _
    have k1 : Blk 24 ((w.alloc (.cells #[.int .i64 ka, .int .i64 na, .string Ta] 24)).alloc (.cells #[.int .i64 kb, .int .i64 nb, .string Tb] 24)) (w.heap.size + 1) [.int .i64 kb, .int .i64 nb, .string Tb] := by
      have := heap_alloc_new (w.alloc (.cells #[.int .i64 ka, .int .i64 na, .string Ta] 24)) (.cells #[.int .i64 kb, .int .i64 nb, .string Tb] 24)
      simpa [Blk] using this
    exact ⟨box_cells k0 hq, box_cells k1 hq⟩
  go_enter Tryd.func5, Tryd.ntmps5
  go_upto_region 1 with (fail)
  generalize ((w.alloc (.cells #[.int .i64 ka, .int .i64 na, .string Ta] 24)).alloc (.cells #[.int .i64 kb, .int .i64 nb, .string Tb] 24)) = w1 at *
  have hB : Below w1.heap.size w1 w1 := Below.refl _ _
  go_wp2_with fail
  refine (BG.out _ hB0.out).mono ?_
  rintro e w2 ⟨rfl, hB2⟩
  have hB := hB.trans (hB2.mono hB.size)
  clear hB2
  obtain ⟨⟨a0, a1, a2⟩, b0, b1, b2⟩ := HC.out _ hB
  rcases ma with _ | _
  · go_wp2_with fail
    refine (MA.out _).mono ?_
    rintro e w3 ⟨rfl, hB3⟩
    have hB := hB.trans (hB3.mono hB.size)
    clear hB3
    obtain ⟨⟨a0, a1, a2⟩, b0, b1, b2⟩ := HC.out _ hB
    go_wp2_with fail
    go_ret
    exact ⟨rfl, hB0.out.trans (hB.mono hB0.out.size)⟩
  rcases mb with _ | _
  · go_wp2_with fail
    refine (MA.out _).mono ?_
    rintro e w3 ⟨rfl, hB3⟩
    have hB := hB.trans (hB3.mono hB.size)
    clear hB3
    obtain ⟨⟨a0, a1, a2⟩, b0, b1, b2⟩ := HC.out _ hB
    go_wp2_with fail
    refine (MB.out _).mono ?_
    rintro e w4 ⟨rfl, hB4⟩
    have hB := hB.trans (hB4.mono hB.size)
    clear hB4
    obtain ⟨⟨a0, a1, a2⟩, b0, b1, b2⟩ := HC.out _ hB
    go_wp2_with fail
    go_ret
    exact ⟨rfl, hB0.out.trans (hB.mono hB0.out.size)⟩
  go_wp2_with fail
  refine (MA.out _).mono ?_
  rintro e w3 ⟨rfl, hB3⟩
  have hB := hB.trans (hB3.mono hB.size)
  clear hB3
  obtain ⟨⟨a0, a1, a2⟩, b0, b1, b2⟩ := HC.out _ hB
  go_wp2_with fail
  refine (MB.out _).mono ?_
  rintro e w4 ⟨rfl, hB4⟩
  have hB := hB.trans (hB4.mono hB.size)
  clear hB4
  obtain ⟨⟨a0, a1, a2⟩, b0, b1, b2⟩ := HC.out _ hB
  have KA := Lib.hid (fun w => KA.out (HMA.out (by simp)) w)
  have KB := Lib.hid (fun w => KB.out (HMB.out (by simp)) w)
  obtain ⟨g1, g2, g3, g4⟩ := HL2.out (HMA.out (by simp)) (HMB.out (by simp))
  clear HL2 HMA HMB MA MB BG
  simp only [List.nil_append, Nat.zero_add] at KA KB
  go_upto_region 5 with (fail)
  have hSr : Hid (∀ wq, Below w4.drew.heap.size w4.drew wq → (wq.cell? ⟨w.heap.size, 0, none⟩ = some (.int .i64 ka) ∧ wq.cell? ⟨w.heap.size, 1, none⟩ = some (.int .i64 na) ∧ wq.cell? ⟨w.heap.size, 2, none⟩ = some (.string Ta)) ∧ wq.cell? ⟨w.heap.size + 1, 0, none⟩ = some (.int .i64 kb) ∧ wq.cell? ⟨w.heap.size + 1, 1, none⟩ = some (.int .i64 nb) ∧ wq.cell? ⟨w.heap.size + 1, 2, none⟩ = some (.string Tb)) := fun wq hq => HC.out _ (hB.trans ((Below.refl _ _).drew.mono hB.size |>.trans (hq.mono hB.size)))
  go_cut [5, 6] from 7 (fun s5 s6 wx => s5 = .string (strOfNums X) ∧ s6 = .string (strOfNums Z) ∧ Below w4.drew.heap.size w4.drew wx)
  case first =>
    refine wp_region_held_drew (S := fun wq => (wq.cell? ⟨w.heap.size, 0, none⟩ = some (.int .i64 ka) ∧ wq.cell? ⟨w.heap.size, 1, none⟩ = some (.int .i64 na) ∧ wq.cell? ⟨w.heap.size, 2, none⟩ = some (.string Ta)) ∧ wq.cell? ⟨w.heap.size + 1, 0, none⟩ = some (.int .i64 kb) ∧ wq.cell? ⟨w.heap.size + 1, 1, none⟩ = some (.int .i64 nb) ∧ wq.cell? ⟨w.heap.size + 1, 2, none⟩ = some (.string Tb)) (by kernel_rfl) ?s_0 (fun hHeld => ?_)
    case s_0 => exact hSr.out _ (Below.refl _ _)
    refine wpAnyH_take (i := 0) (oi := { dst := some 19, op := Go.Op.load 24 (Go.Operand.tmp 2), type := 24, pos := "law.go:64", after := #[], guard := none }) (v := ?v_0t1) rfl (by kernel_rfl) (by kernel_rfl) (by kernel_rfl) (fun _ _ _ h => h) (Or.inl ⟨by rfl, ?y_0t1⟩) (by assumption) ?_
    case y_0t1 => (intro wq hSw; (try dsimp only at hSw); go_simp; first | done | with_reducible rfl)
    try simp only [Act.put, List.setIfInBounds_toArray, List.set_cons_zero, List.set_cons_succ]
    refine wpAnyH_take (i := 3) (oi := { dst := some 22, op := Go.Op.load 24 (Go.Operand.tmp 3), type := 24, pos := "law.go:64", after := #[], guard := none }) (v := ?v_3t1) rfl (by kernel_rfl) (by kernel_rfl) (by kernel_rfl) (fun _ _ _ h => h) (Or.inl ⟨by rfl, ?y_3t1⟩) (by assumption) ?_
    case y_3t1 => (intro wq hSw; (try dsimp only at hSw); go_simp; first | done | with_reducible rfl)
    try simp only [Act.put, List.setIfInBounds_toArray, List.set_cons_zero, List.set_cons_succ]
    refine wpAnyH_ready (rs := [1]) (by kernel_rfl) (by simp) ?_
    refine AllReadyH.cons (o := { dst := some 20, op := Go.Op.call { callee := Go.Callee.value (Go.Operand.func 11), args := #[Go.Operand.const (Go.Value.slice none 0 0), Go.Operand.tmp 19], argTypes := #[22, 24] }, type := 22, pos := "law.go:64", after := #[{ on := 0, ground := Go.Ground.data }], guard := none }) rfl (fun KQ hKQ => ?_) AllReadyH.nil
    go_simp
    refine (KA.out _).mono ?_
    rintro e y1 ⟨A1, c1, rfl, hl1, hO1, hY1⟩
    have q1 := hSr.out _ hY1
    go_wp2_with fail
    refine hKQ.out _ _ ?s_1t1 (fun hHeld1 => ?_)
    case s_1t1 => exact q1
    clear hKQ KQ
    try simp only [Act.put, List.setIfInBounds_toArray, List.set_cons_zero, List.set_cons_succ]
    refine wpAnyH_ready (rs := [2, 4]) (by kernel_rfl) (by simp) ?_
    refine AllReadyH.cons (o := { dst := some 21, op := Go.Op.convert 22 9 (Go.Operand.tmp 20), type := 9, pos := "law.go:64", after := #[{ on := 1, ground := Go.Ground.data }], guard := none }) rfl (fun KQ hKQ => ?_) (AllReadyH.cons (o := { dst := some 23, op := Go.Op.call { callee := Go.Callee.value (Go.Operand.func 11), args := #[Go.Operand.const (Go.Value.slice none 0 0), Go.Operand.tmp 22], argTypes := #[22, 24] }, type := 22, pos := "law.go:64", after := #[{ on := 3, ground := Go.Ground.data }, { on := 1, ground := Go.Ground.chain }], guard := none }) rfl (fun KQ hKQ => ?_) (AllReadyH.nil))
    · first | have hcv := text_of hO1' rfl | have hcv := text_of hO1 rfl
      go_simp
      refine hKQ.out _ _ ?s_2t1 (fun hHeld2 => ?_)
      case s_2t1 => first | exact q2 | exact q1
      clear hKQ KQ
      try simp only [Act.put, List.setIfInBounds_toArray, List.set_cons_zero, List.set_cons_succ]
      refine wpAnyH_ready (rs := [4]) (by kernel_rfl) (by simp) ?_
      refine AllReadyH.cons (o := { dst := some 23, op := Go.Op.call { callee := Go.Callee.value (Go.Operand.func 11), args := #[Go.Operand.const (Go.Value.slice none 0 0), Go.Operand.tmp 22], argTypes := #[22, 24] }, type := 22, pos := "law.go:64", after := #[{ on := 3, ground := Go.Ground.data }, { on := 1, ground := Go.Ground.chain }], guard := none }) rfl (fun KQ hKQ => ?_) AllReadyH.nil
      go_simp
      refine (KB.out _).mono ?_
      rintro e y2 ⟨A2, c2, rfl, hl2, hO2, hY2⟩
      have hY12 := hY1.trans (hY2.mono hY1.size)
      have q2 := hSr.out _ hY12
      have hO1' := hO1.below hY2
      go_wp2_with fail
      refine hKQ.out _ _ ?s_4t2 (fun hHeld4 => ?_)
      case s_4t2 => exact q2
      clear hKQ KQ
      try simp only [Act.put, List.setIfInBounds_toArray, List.set_cons_zero, List.set_cons_succ]
      refine wpAnyH_take (i := 6) (oi := { dst := some 5, op := Go.Op.assign (Go.Operand.tmp 21), type := 9, pos := "law.go:64", after := #[{ on := 2, ground := Go.Ground.data }, { on := 4, ground := Go.Ground.chain }, { on := 0, ground := Go.Ground.phase }, { on := 1, ground := Go.Ground.phase }, { on := 2, ground := Go.Ground.phase }, { on := 3, ground := Go.Ground.textOnly Go.Departure.lateStores }, { on := 4, ground := Go.Ground.textOnly Go.Departure.lateStoresUnsure }, { on := 5, ground := Go.Ground.textOnly Go.Departure.lateStores }], guard := none }) (v := ?v_6t2) rfl (by kernel_rfl) (by kernel_rfl) (by kernel_rfl) (fun _ _ _ h => h) (Or.inl ⟨by rfl, ?y_6t2⟩) (by assumption) ?_
      case y_6t2 => (intro wq hSw; (try dsimp only at hSw); go_simp; first | done | with_reducible rfl)
      try simp only [Act.put, List.setIfInBounds_toArray, List.set_cons_zero, List.set_cons_succ]
      refine wpAnyH_ready (rs := [5]) (by kernel_rfl) (by simp) ?_
      refine AllReadyH.cons (o := { dst := some 24, op := Go.Op.convert 22 9 (Go.Operand.tmp 23), type := 9, pos := "law.go:64", after := #[{ on := 4, ground := Go.Ground.data }, { on := 6, ground := Go.Ground.gcOnly Go.Departure.lateStores }], guard := none }) rfl (fun KQ hKQ => ?_) AllReadyH.nil
      have hcv2 := text_of hO2 rfl
      go_simp
      refine hKQ.out _ _ ?s_5t2 (fun hHeld5 => ?_)
      case s_5t2 => exact q2
      clear hKQ KQ
      try simp only [Act.put, List.setIfInBounds_toArray, List.set_cons_zero, List.set_cons_succ]
      refine wpAnyH_take (i := 7) (oi := { dst := some 6, op := Go.Op.assign (Go.Operand.tmp 24), type := 9, pos := "law.go:64", after := #[{ on := 5, ground := Go.Ground.data }, { on := 6, ground := Go.Ground.chain }, { on := 0, ground := Go.Ground.phase }, { on := 1, ground := Go.Ground.phase }, { on := 2, ground := Go.Ground.phase }, { on := 3, ground := Go.Ground.phase }, { on := 4, ground := Go.Ground.phase }, { on := 5, ground := Go.Ground.phase }, { on := 6, ground := Go.Ground.phase }], guard := none }) (v := ?v_7t2) rfl (by kernel_rfl) (by kernel_rfl) (by kernel_rfl) (fun _ _ _ h => h) (Or.inl ⟨by rfl, ?y_7t2⟩) (by assumption) ?_
      case y_7t2 => (intro wq hSw; (try dsimp only at hSw); go_simp; first | done | with_reducible rfl)
      try simp only [Act.put, List.setIfInBounds_toArray, List.set_cons_zero, List.set_cons_succ]
      refine wpAnyH_done (by kernel_rfl) ?_ _
      go_wp2_with fail
      go_meet
      case rel => exact ⟨rfl, rfl, hY12⟩
    · go_simp
      refine (KB.out _).mono ?_
      rintro e y2 ⟨A2, c2, rfl, hl2, hO2, hY2⟩
      have hY12 := hY1.trans (hY2.mono hY1.size)
      have q2 := hSr.out _ hY12
      have hO1' := hO1.below hY2
      go_wp2_with fail
      refine hKQ.out _ _ ?s_4t1 (fun hHeld4 => ?_)
      case s_4t1 => exact q2
      clear hKQ KQ
      try simp only [Act.put, List.setIfInBounds_toArray, List.set_cons_zero, List.set_cons_succ]
      refine wpAnyH_ready (rs := [2, 5]) (by kernel_rfl) (by simp) ?_
      refine AllReadyH.cons (o := { dst := some 21, op := Go.Op.convert 22 9 (Go.Operand.tmp 20), type := 9, pos := "law.go:64", after := #[{ on := 1, ground := Go.Ground.data }], guard := none }) rfl (fun KQ hKQ => ?_) (AllReadyH.cons (o := { dst := some 24, op := Go.Op.convert 22 9 (Go.Operand.tmp 23), type := 9, pos := "law.go:64", after := #[{ on := 4, ground := Go.Ground.data }, { on := 6, ground := Go.Ground.gcOnly Go.Departure.lateStores }], guard := none }) rfl (fun KQ hKQ => ?_) (AllReadyH.nil))
      · first | have hcv := text_of hO1' rfl | have hcv := text_of hO1 rfl
        go_simp
        refine hKQ.out _ _ ?s_2t3 (fun hHeld2 => ?_)
        case s_2t3 => first | exact q2 | exact q1
        clear hKQ KQ
        try simp only [Act.put, List.setIfInBounds_toArray, List.set_cons_zero, List.set_cons_succ]
        refine wpAnyH_take (i := 6) (oi := { dst := some 5, op := Go.Op.assign (Go.Operand.tmp 21), type := 9, pos := "law.go:64", after := #[{ on := 2, ground := Go.Ground.data }, { on := 4, ground := Go.Ground.chain }, { on := 0, ground := Go.Ground.phase }, { on := 1, ground := Go.Ground.phase }, { on := 2, ground := Go.Ground.phase }, { on := 3, ground := Go.Ground.textOnly Go.Departure.lateStores }, { on := 4, ground := Go.Ground.textOnly Go.Departure.lateStoresUnsure }, { on := 5, ground := Go.Ground.textOnly Go.Departure.lateStores }], guard := none }) (v := ?v_6t4) rfl (by kernel_rfl) (by kernel_rfl) (by kernel_rfl) (fun _ _ _ h => h) (Or.inl ⟨by rfl, ?y_6t4⟩) (by assumption) ?_
        case y_6t4 => (intro wq hSw; (try dsimp only at hSw); go_simp; first | done | with_reducible rfl)
        try simp only [Act.put, List.setIfInBounds_toArray, List.set_cons_zero, List.set_cons_succ]
        refine wpAnyH_ready (rs := [5]) (by kernel_rfl) (by simp) ?_
        refine AllReadyH.cons (o := { dst := some 24, op := Go.Op.convert 22 9 (Go.Operand.tmp 23), type := 9, pos := "law.go:64", after := #[{ on := 4, ground := Go.Ground.data }, { on := 6, ground := Go.Ground.gcOnly Go.Departure.lateStores }], guard := none }) rfl (fun KQ hKQ => ?_) AllReadyH.nil
        have hcv2 := text_of hO2 rfl
        go_simp
        refine hKQ.out _ _ ?s_5t4 (fun hHeld5 => ?_)
        case s_5t4 => exact q2
        clear hKQ KQ
        try simp only [Act.put, List.setIfInBounds_toArray, List.set_cons_zero, List.set_cons_succ]
        refine wpAnyH_take (i := 7) (oi := { dst := some 6, op := Go.Op.assign (Go.Operand.tmp 24), type := 9, pos := "law.go:64", after := #[{ on := 5, ground := Go.Ground.data }, { on := 6, ground := Go.Ground.chain }, { on := 0, ground := Go.Ground.phase }, { on := 1, ground := Go.Ground.phase }, { on := 2, ground := Go.Ground.phase }, { on := 3, ground := Go.Ground.phase }, { on := 4, ground := Go.Ground.phase }, { on := 5, ground := Go.Ground.phase }, { on := 6, ground := Go.Ground.phase }], guard := none }) (v := ?v_7t4) rfl (by kernel_rfl) (by kernel_rfl) (by kernel_rfl) (fun _ _ _ h => h) (Or.inl ⟨by rfl, ?y_7t4⟩) (by assumption) ?_
        case y_7t4 => (intro wq hSw; (try dsimp only at hSw); go_simp; first | done | with_reducible rfl)
        try simp only [Act.put, List.setIfInBounds_toArray, List.set_cons_zero, List.set_cons_succ]
        refine wpAnyH_done (by kernel_rfl) ?_ _
        go_wp2_with fail
        go_meet
        case rel => exact ⟨rfl, rfl, hY12⟩
      · have hcv2 := text_of hO2 rfl
        go_simp
        refine hKQ.out _ _ ?s_5t3 (fun hHeld5 => ?_)
        case s_5t3 => exact q2
        clear hKQ KQ
        try simp only [Act.put, List.setIfInBounds_toArray, List.set_cons_zero, List.set_cons_succ]
        refine wpAnyH_ready (rs := [2]) (by kernel_rfl) (by simp) ?_
        refine AllReadyH.cons (o := { dst := some 21, op := Go.Op.convert 22 9 (Go.Operand.tmp 20), type := 9, pos := "law.go:64", after := #[{ on := 1, ground := Go.Ground.data }], guard := none }) rfl (fun KQ hKQ => ?_) AllReadyH.nil
        first | have hcv := text_of hO1' rfl | have hcv := text_of hO1 rfl
        go_simp
        refine hKQ.out _ _ ?s_2t5 (fun hHeld2 => ?_)
        case s_2t5 => first | exact q2 | exact q1
        clear hKQ KQ
        try simp only [Act.put, List.setIfInBounds_toArray, List.set_cons_zero, List.set_cons_succ]
        refine wpAnyH_take (i := 6) (oi := { dst := some 5, op := Go.Op.assign (Go.Operand.tmp 21), type := 9, pos := "law.go:64", after := #[{ on := 2, ground := Go.Ground.data }, { on := 4, ground := Go.Ground.chain }, { on := 0, ground := Go.Ground.phase }, { on := 1, ground := Go.Ground.phase }, { on := 2, ground := Go.Ground.phase }, { on := 3, ground := Go.Ground.textOnly Go.Departure.lateStores }, { on := 4, ground := Go.Ground.textOnly Go.Departure.lateStoresUnsure }, { on := 5, ground := Go.Ground.textOnly Go.Departure.lateStores }], guard := none }) (v := ?v_6t5) rfl (by kernel_rfl) (by kernel_rfl) (by kernel_rfl) (fun _ _ _ h => h) (Or.inl ⟨by rfl, ?y_6t5⟩) (by assumption) ?_
        case y_6t5 => (intro wq hSw; (try dsimp only at hSw); go_simp; first | done | with_reducible rfl)
        try simp only [Act.put, List.setIfInBounds_toArray, List.set_cons_zero, List.set_cons_succ]
        refine wpAnyH_take (i := 7) (oi := { dst := some 6, op := Go.Op.assign (Go.Operand.tmp 24), type := 9, pos := "law.go:64", after := #[{ on := 5, ground := Go.Ground.data }, { on := 6, ground := Go.Ground.chain }, { on := 0, ground := Go.Ground.phase }, { on := 1, ground := Go.Ground.phase }, { on := 2, ground := Go.Ground.phase }, { on := 3, ground := Go.Ground.phase }, { on := 4, ground := Go.Ground.phase }, { on := 5, ground := Go.Ground.phase }, { on := 6, ground := Go.Ground.phase }], guard := none }) (v := ?v_7t5) rfl (by kernel_rfl) (by kernel_rfl) (by kernel_rfl) (fun _ _ _ h => h) (Or.inl ⟨by rfl, ?y_7t5⟩) (by assumption) ?_
        case y_7t5 => (intro wq hSw; (try dsimp only at hSw); go_simp; first | done | with_reducible rfl)
        try simp only [Act.put, List.setIfInBounds_toArray, List.set_cons_zero, List.set_cons_succ]
        refine wpAnyH_done (by kernel_rfl) ?_ _
        go_wp2_with fail
        go_meet
        case rel => exact ⟨rfl, rfl, hY12⟩
  case rest =>
    obtain ⟨rfl, rfl, hBc⟩ := hcut
    have hB := hB.trans ((Below.refl _ _).drew.mono hB.size |>.trans (hBc.mono hB.size))
    obtain ⟨⟨a0, a1, a2⟩, b0, b1, b2⟩ := HC.out _ hB
    clear hSr KA KB hBc
    go_wp2_with fail
    all_goals
      refine (CAB.out _).mono ?_
      rintro e w6 ⟨rfl, hB6⟩
      have hB := hB.trans (hB6.mono hB.size)
      clear hB6
      obtain ⟨⟨a0, a1, a2⟩, b0, b1, b2⟩ := HC.out _ hB
      rw [show (min (X.length : Int) (Z.length : Int)) = ((min X.length Z.length : Nat) : Int) by omega]
      have hn1 : min X.length Z.length ≤ X.length := Nat.min_le_left _ _
      have hn2 : min X.length Z.length ≤ Z.length := Nat.min_le_right _ _
      have hT := HTK.out (min X.length Z.length)
      rw [← HXA.out, ← HXB.out] at hT
      have hS := HST.out
      have hT3 : eab = false → decide (X.take (min X.length Z.length) = Z.take (min X.length Z.length)) = false := fun h => by
        rcases g4 with g4 | g4
        · rw [h] at g4; cases g4
        · simp [g4 _ rfl]
      generalize min X.length Z.length = n at *
      clear HTK HXA HXB HST g4 HC CAB
      rw [← g2] at hEQ
      rw [← g1] at hLS
      generalize strOfNums X = TX at *
      generalize strOfNums Z = TZ at *
      rcases Int.lt_trichotomy x 0 with hx | hx | hx
      · have e0 : ¬ x = 0 := by omega
        have hE : eab = false := by rw [← g3]; simp [e0]
        rw [hT3 hE] at hT
        subst hE
        rw [decide_eq_true hx] at hLS
        rw [decide_eq_false e0] at hEQ
        have e0' : (x == 0) = false := by simpa using e0
        clear g1 g2 g3 hT3
        go_wp2_with fail
        go_quiet (fail)
        go_wp2_with fail
        go_ret
        exact ⟨by first | rfl | (simp; omega) | simp, hB0.out.trans ((below_drewN hB _).mono hB0.out.size)⟩
      · have hE : eab = true := by rw [← g3]; simp [hx]
        subst hE
        subst hx
        simp only [Int.lt_irrefl, decide_false, decide_true] at hLS hEQ
        clear g1 g2 g3 hT3 hT
        go_wp2_with fail
        go_quiet (fail)
        go_wp2_with fail
        go_ret
        exact ⟨by first | rfl | (simp; omega) | simp, hB0.out.trans ((below_drewN hB _).mono hB0.out.size)⟩
      · have e0 : ¬ x = 0 := by omega
        have e1 : ¬ x < 0 := by omega
        have hE : eab = false := by rw [← g3]; simp [e0]
        rw [hT3 hE] at hT
        subst hE
        rw [decide_eq_false e1] at hLS
        rw [decide_eq_false e0] at hEQ
        have e0' : (x == 0) = false := by simpa using e0
        clear g1 g2 g3 hT3
        go_wp2_with fail
        go_quiet (fail)
        go_wp2_with fail
        go_ret
        exact ⟨by first | rfl | (simp; omega) | simp, hB0.out.trans ((below_drewN hB _).mono hB0.out.size)⟩
end Go.Proofs.YtodpaeaeigjmdaaDoor.law7
