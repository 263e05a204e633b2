/- What the document's LessTry (antipoderef6) comes to. Conditions: none. -/
import Derived.Test.YtpalhpkbdkodfaaRef6
import Derived.Deep.RegionHeld3
namespace Go.Proofs.Ytpalhpkbdkodfaa.ref6
open Go.RowKit Go.Proofs.Ytpalhpkbdkodfaa.kit Go.Proofs.Ytpalhpkbdkodfaa.nums Go.Proofs.Ytpalhpkbdkodfaa.st
set_option linter.unusedVariables false

theorem blk_fst (w : World) (E : TypeId) (cs : List Value) (o : Obj) : Blk E ((w.alloc (.cells cs.toArray E)).alloc o).drew w.heap.size cs := Blk.drew (Blk.alloc (heap_alloc_new w _) _)
theorem blk_snd (w : World) (E : TypeId) (cs : List Value) (o : Obj) : Blk E ((w.alloc o).alloc (.cells cs.toArray E)).drew (w.heap.size + 1) cs := by
  have := heap_alloc_new (w.alloc o) (.cells cs.toArray E)
  refine Blk.drew ?_
  simpa [Blk] using this
set_option maxRecDepth 100000 in
set_option maxHeartbeats 2000000 in
theorem lessT_any (a b : TrL) (w : World) :
    Calls Try.prog 16 #[trV a, trV b] w fun e w' => e = .returned (.bool (lessT a b)) ∧ Below w.heap.size w w' := by
  have HT := Lib.hid (lessT_at a b)
  have HE := Lib.hid (lessT_end a b)
  obtain ⟨xa, xb, xc, xd⟩ := a
  obtain ⟨ya, yb, yc, yd⟩ := b
  unfold trV at *
  go_enter Try.func16, Try.ntmps16
  have hB2 : Hid (Below w.heap.size w ((w.alloc (.cells #[.int .i64 xa, .int .i64 xb, .int .i64 xc, .int .i64 xd] 25)).alloc (.cells #[.int .i64 ya, .int .i64 yb, .int .i64 yc, .int .i64 yd] 25))) := ((Below.refl _ _).alloc (Nat.le_refl _) _).alloc (by simp) _
  have k0 : Blk 25 ((w.alloc (.cells #[.int .i64 xa, .int .i64 xb, .int .i64 xc, .int .i64 xd] 25)).alloc (.cells #[.int .i64 ya, .int .i64 yb, .int .i64 yc, .int .i64 yd] 25)) w.heap.size [.int .i64 xa, .int .i64 xb, .int .i64 xc, .int .i64 xd] := Blk.alloc (heap_alloc_new w _) _
  have k1 : Blk 25 ((w.alloc (.cells #[.int .i64 xa, .int .i64 xb, .int .i64 xc, .int .i64 xd] 25)).alloc (.cells #[.int .i64 ya, .int .i64 yb, .int .i64 yc, .int .i64 yd] 25)) (w.heap.size + 1) [.int .i64 ya, .int .i64 yb, .int .i64 yc, .int .i64 yd] := by
    have := heap_alloc_new (w.alloc (.cells #[.int .i64 xa, .int .i64 xb, .int .i64 xc, .int .i64 xd] 25)) (.cells #[.int .i64 ya, .int .i64 yb, .int .i64 yc, .int .i64 yd] 25)
    simpa [Blk] using this
  go_upto_region 1 with (fail)
  generalize ((w.alloc (.cells #[.int .i64 xa, .int .i64 xb, .int .i64 xc, .int .i64 xd] 25)).alloc (.cells #[.int .i64 ya, .int .i64 yb, .int .i64 yc, .int .i64 yd] 25)) = w2 at *
  have l1 := k1.lt
  have hK : ∀ wq, Below w2.heap.size w2 wq → (wq.cell? ⟨w.heap.size, 0, none⟩ = some (.int .i64 xa) ∧ wq.cell? ⟨w.heap.size, 1, none⟩ = some (.int .i64 xb) ∧ wq.cell? ⟨w.heap.size, 2, none⟩ = some (.int .i64 xc) ∧ wq.cell? ⟨w.heap.size, 3, none⟩ = some (.int .i64 xd)) ∧ wq.cell? ⟨w.heap.size + 1, 0, none⟩ = some (.int .i64 ya) ∧ wq.cell? ⟨w.heap.size + 1, 1, none⟩ = some (.int .i64 yb) ∧ wq.cell? ⟨w.heap.size + 1, 2, none⟩ = some (.int .i64 yc) ∧ wq.cell? ⟨w.heap.size + 1, 3, none⟩ = some (.int .i64 yd) := fun wq hq => by
    have j0 := k0.below hq (by omega)
    have j1 := k1.below hq (by omega)
    exact ⟨⟨j0.cell 0, j0.cell 1, j0.cell 2, j0.cell 3⟩, j1.cell 0, j1.cell 1, j1.cell 2, j1.cell 3⟩
  have hSr := Lib.hid hK
  clear hK k0 k1
  go_cut [5, 6] from 7 (fun s5 s6 wx => ∃ x y, s5 = .pointer (some ⟨x, 0, none⟩) ∧ s6 = .pointer (some ⟨y, 0, none⟩) ∧ Blk 55 wx x [.int .i64 xa, .int .i64 xb, .int .i64 xc, .int .i64 xd] ∧ Blk 55 wx y [.int .i64 ya, .int .i64 yb, .int .i64 yc, .int .i64 yd] ∧ Below w2.heap.size w2 wx)
  case first =>
    refine wp_region_held_drew (S := fun wq => (wq.cell? ⟨w.heap.size, 0, none⟩ = some (.int .i64 xa) ∧ wq.cell? ⟨w.heap.size, 1, none⟩ = some (.int .i64 xb) ∧ wq.cell? ⟨w.heap.size, 2, none⟩ = some (.int .i64 xc) ∧ wq.cell? ⟨w.heap.size, 3, none⟩ = some (.int .i64 xd)) ∧ wq.cell? ⟨w.heap.size + 1, 0, none⟩ = some (.int .i64 ya) ∧ wq.cell? ⟨w.heap.size + 1, 1, none⟩ = some (.int .i64 yb) ∧ wq.cell? ⟨w.heap.size + 1, 2, none⟩ = some (.int .i64 yc) ∧ wq.cell? ⟨w.heap.size + 1, 3, none⟩ = some (.int .i64 yd)) (by kernel_rfl) ?s_0 (fun hHeld => ?_)
    case s_0 => exact hSr.out _ ((Below.refl _ _).drew)
    refine wpAnyH_take (i := 0) (oi := { dst := some 8, op := Go.Op.fieldAddr 25 (Go.Operand.tmp 2) 0, type := 0, pos := "ref.go:22", after := #[], guard := none }) (v := ?v_0_1) rfl (by kernel_rfl) (by kernel_rfl) (by kernel_rfl) (fun _ _ _ h => h) (Or.inl ⟨by rfl, ?y_0_1⟩) (by assumption) ?_
    case y_0_1 => (intro wq hSw; (try dsimp only at hSw); go_simp; first | done | with_reducible rfl)
    try simp only [Act.put, List.setIfInBounds_toArray, List.set_cons_zero, List.set_cons_succ]
    refine wpAnyH_take (i := 1) (oi := { dst := some 9, op := Go.Op.load 3 (Go.Operand.tmp 8), type := 3, pos := "ref.go:22", after := #[{ on := 0, ground := Go.Ground.data }], guard := none }) (v := ?v_1_1) rfl (by kernel_rfl) (by kernel_rfl) (by kernel_rfl) (fun _ _ _ h => h) (Or.inl ⟨by rfl, ?y_1_1⟩) (by assumption) ?_
    case y_1_1 => (intro wq hSw; (try dsimp only at hSw); go_simp; first | done | with_reducible rfl)
    try simp only [Act.put, List.setIfInBounds_toArray, List.set_cons_zero, List.set_cons_succ]
    refine wpAnyH_take (i := 2) (oi := { dst := some 10, op := Go.Op.fieldAddr 25 (Go.Operand.tmp 2) 1, type := 0, pos := "ref.go:22", after := #[], guard := none }) (v := ?v_2_1) rfl (by kernel_rfl) (by kernel_rfl) (by kernel_rfl) (fun _ _ _ h => h) (Or.inl ⟨by rfl, ?y_2_1⟩) (by assumption) ?_
    case y_2_1 => (intro wq hSw; (try dsimp only at hSw); go_simp; first | done | with_reducible rfl)
    try simp only [Act.put, List.setIfInBounds_toArray, List.set_cons_zero, List.set_cons_succ]
    refine wpAnyH_take (i := 3) (oi := { dst := some 11, op := Go.Op.load 3 (Go.Operand.tmp 10), type := 3, pos := "ref.go:22", after := #[{ on := 2, ground := Go.Ground.data }], guard := none }) (v := ?v_3_1) rfl (by kernel_rfl) (by kernel_rfl) (by kernel_rfl) (fun _ _ _ h => h) (Or.inl ⟨by rfl, ?y_3_1⟩) (by assumption) ?_
    case y_3_1 => (intro wq hSw; (try dsimp only at hSw); go_simp; first | done | with_reducible rfl)
    try simp only [Act.put, List.setIfInBounds_toArray, List.set_cons_zero, List.set_cons_succ]
    refine wpAnyH_take (i := 4) (oi := { dst := some 12, op := Go.Op.fieldAddr 25 (Go.Operand.tmp 2) 2, type := 0, pos := "ref.go:22", after := #[], guard := none }) (v := ?v_4_1) rfl (by kernel_rfl) (by kernel_rfl) (by kernel_rfl) (fun _ _ _ h => h) (Or.inl ⟨by rfl, ?y_4_1⟩) (by assumption) ?_
    case y_4_1 => (intro wq hSw; (try dsimp only at hSw); go_simp; first | done | with_reducible rfl)
    try simp only [Act.put, List.setIfInBounds_toArray, List.set_cons_zero, List.set_cons_succ]
    refine wpAnyH_take (i := 5) (oi := { dst := some 13, op := Go.Op.load 3 (Go.Operand.tmp 12), type := 3, pos := "ref.go:22", after := #[{ on := 4, ground := Go.Ground.data }], guard := none }) (v := ?v_5_1) rfl (by kernel_rfl) (by kernel_rfl) (by kernel_rfl) (fun _ _ _ h => h) (Or.inl ⟨by rfl, ?y_5_1⟩) (by assumption) ?_
    case y_5_1 => (intro wq hSw; (try dsimp only at hSw); go_simp; first | done | with_reducible rfl)
    try simp only [Act.put, List.setIfInBounds_toArray, List.set_cons_zero, List.set_cons_succ]
    refine wpAnyH_take (i := 6) (oi := { dst := some 14, op := Go.Op.fieldAddr 25 (Go.Operand.tmp 2) 3, type := 0, pos := "ref.go:22", after := #[], guard := none }) (v := ?v_6_1) rfl (by kernel_rfl) (by kernel_rfl) (by kernel_rfl) (fun _ _ _ h => h) (Or.inl ⟨by rfl, ?y_6_1⟩) (by assumption) ?_
    case y_6_1 => (intro wq hSw; (try dsimp only at hSw); go_simp; first | done | with_reducible rfl)
    try simp only [Act.put, List.setIfInBounds_toArray, List.set_cons_zero, List.set_cons_succ]
    refine wpAnyH_take (i := 7) (oi := { dst := some 15, op := Go.Op.load 3 (Go.Operand.tmp 14), type := 3, pos := "ref.go:22", after := #[{ on := 6, ground := Go.Ground.data }], guard := none }) (v := ?v_7_1) rfl (by kernel_rfl) (by kernel_rfl) (by kernel_rfl) (fun _ _ _ h => h) (Or.inl ⟨by rfl, ?y_7_1⟩) (by assumption) ?_
    case y_7_1 => (intro wq hSw; (try dsimp only at hSw); go_simp; first | done | with_reducible rfl)
    try simp only [Act.put, List.setIfInBounds_toArray, List.set_cons_zero, List.set_cons_succ]
    refine wpAnyH_take (i := 8) (oi := { dst := some 16, op := Go.Op.build 55 #[(0, Go.Operand.tmp 9), (1, Go.Operand.tmp 11), (2, Go.Operand.tmp 13), (3, Go.Operand.tmp 15)], type := 55, pos := "ref.go:22", after := #[{ on := 1, ground := Go.Ground.data }, { on := 3, ground := Go.Ground.data }, { on := 5, ground := Go.Ground.data }, { on := 7, ground := Go.Ground.data }], guard := none }) (v := ?v_8_1) rfl (by kernel_rfl) (by kernel_rfl) (by kernel_rfl) (fun _ _ _ h => h) (Or.inl ⟨by rfl, ?y_8_1⟩) (by assumption) ?_
    case y_8_1 => (intro wq hSw; (try dsimp only at hSw); go_simp; first | done | with_reducible rfl)
    try simp only [Act.put, List.setIfInBounds_toArray, List.set_cons_zero, List.set_cons_succ]
    refine wpAnyH_take (i := 9) (oi := { dst := some 17, op := Go.Op.fieldAddr 25 (Go.Operand.tmp 3) 0, type := 0, pos := "ref.go:22", after := #[{ on := 20, ground := Go.Ground.gcOnly Go.Departure.lateStores }], guard := none }) (v := ?v_9_1) rfl (by kernel_rfl) (by kernel_rfl) (by kernel_rfl) (fun _ _ _ h => h) (Or.inl ⟨by rfl, ?y_9_1⟩) (by assumption) ?_
    case y_9_1 => (intro wq hSw; (try dsimp only at hSw); go_simp; first | done | with_reducible rfl)
    try simp only [Act.put, List.setIfInBounds_toArray, List.set_cons_zero, List.set_cons_succ]
    refine wpAnyH_take (i := 10) (oi := { dst := some 18, op := Go.Op.load 3 (Go.Operand.tmp 17), type := 3, pos := "ref.go:22", after := #[{ on := 9, ground := Go.Ground.data }, { on := 20, ground := Go.Ground.gcOnly Go.Departure.lateStores }], guard := none }) (v := ?v_10_1) rfl (by kernel_rfl) (by kernel_rfl) (by kernel_rfl) (fun _ _ _ h => h) (Or.inl ⟨by rfl, ?y_10_1⟩) (by assumption) ?_
    case y_10_1 => (intro wq hSw; (try dsimp only at hSw); go_simp; first | done | with_reducible rfl)
    try simp only [Act.put, List.setIfInBounds_toArray, List.set_cons_zero, List.set_cons_succ]
    refine wpAnyH_take (i := 11) (oi := { dst := some 19, op := Go.Op.fieldAddr 25 (Go.Operand.tmp 3) 1, type := 0, pos := "ref.go:22", after := #[{ on := 20, ground := Go.Ground.gcOnly Go.Departure.lateStores }], guard := none }) (v := ?v_11_1) rfl (by kernel_rfl) (by kernel_rfl) (by kernel_rfl) (fun _ _ _ h => h) (Or.inl ⟨by rfl, ?y_11_1⟩) (by assumption) ?_
    case y_11_1 => (intro wq hSw; (try dsimp only at hSw); go_simp; first | done | with_reducible rfl)
    try simp only [Act.put, List.setIfInBounds_toArray, List.set_cons_zero, List.set_cons_succ]
    refine wpAnyH_take (i := 12) (oi := { dst := some 20, op := Go.Op.load 3 (Go.Operand.tmp 19), type := 3, pos := "ref.go:22", after := #[{ on := 11, ground := Go.Ground.data }, { on := 20, ground := Go.Ground.gcOnly Go.Departure.lateStores }], guard := none }) (v := ?v_12_1) rfl (by kernel_rfl) (by kernel_rfl) (by kernel_rfl) (fun _ _ _ h => h) (Or.inl ⟨by rfl, ?y_12_1⟩) (by assumption) ?_
    case y_12_1 => (intro wq hSw; (try dsimp only at hSw); go_simp; first | done | with_reducible rfl)
    try simp only [Act.put, List.setIfInBounds_toArray, List.set_cons_zero, List.set_cons_succ]
    refine wpAnyH_take (i := 13) (oi := { dst := some 21, op := Go.Op.fieldAddr 25 (Go.Operand.tmp 3) 2, type := 0, pos := "ref.go:22", after := #[{ on := 20, ground := Go.Ground.gcOnly Go.Departure.lateStores }], guard := none }) (v := ?v_13_1) rfl (by kernel_rfl) (by kernel_rfl) (by kernel_rfl) (fun _ _ _ h => h) (Or.inl ⟨by rfl, ?y_13_1⟩) (by assumption) ?_
    case y_13_1 => (intro wq hSw; (try dsimp only at hSw); go_simp; first | done | with_reducible rfl)
    try simp only [Act.put, List.setIfInBounds_toArray, List.set_cons_zero, List.set_cons_succ]
    refine wpAnyH_take (i := 14) (oi := { dst := some 22, op := Go.Op.load 3 (Go.Operand.tmp 21), type := 3, pos := "ref.go:22", after := #[{ on := 13, ground := Go.Ground.data }, { on := 20, ground := Go.Ground.gcOnly Go.Departure.lateStores }], guard := none }) (v := ?v_14_1) rfl (by kernel_rfl) (by kernel_rfl) (by kernel_rfl) (fun _ _ _ h => h) (Or.inl ⟨by rfl, ?y_14_1⟩) (by assumption) ?_
    case y_14_1 => (intro wq hSw; (try dsimp only at hSw); go_simp; first | done | with_reducible rfl)
    try simp only [Act.put, List.setIfInBounds_toArray, List.set_cons_zero, List.set_cons_succ]
    refine wpAnyH_take (i := 15) (oi := { dst := some 23, op := Go.Op.fieldAddr 25 (Go.Operand.tmp 3) 3, type := 0, pos := "ref.go:22", after := #[{ on := 20, ground := Go.Ground.gcOnly Go.Departure.lateStores }], guard := none }) (v := ?v_15_1) rfl (by kernel_rfl) (by kernel_rfl) (by kernel_rfl) (fun _ _ _ h => h) (Or.inl ⟨by rfl, ?y_15_1⟩) (by assumption) ?_
    case y_15_1 => (intro wq hSw; (try dsimp only at hSw); go_simp; first | done | with_reducible rfl)
    try simp only [Act.put, List.setIfInBounds_toArray, List.set_cons_zero, List.set_cons_succ]
    refine wpAnyH_take (i := 16) (oi := { dst := some 24, op := Go.Op.load 3 (Go.Operand.tmp 23), type := 3, pos := "ref.go:22", after := #[{ on := 15, ground := Go.Ground.data }, { on := 20, ground := Go.Ground.gcOnly Go.Departure.lateStores }], guard := none }) (v := ?v_16_1) rfl (by kernel_rfl) (by kernel_rfl) (by kernel_rfl) (fun _ _ _ h => h) (Or.inl ⟨by rfl, ?y_16_1⟩) (by assumption) ?_
    case y_16_1 => (intro wq hSw; (try dsimp only at hSw); go_simp; first | done | with_reducible rfl)
    try simp only [Act.put, List.setIfInBounds_toArray, List.set_cons_zero, List.set_cons_succ]
    refine wpAnyH_take (i := 17) (oi := { dst := some 25, op := Go.Op.build 55 #[(0, Go.Operand.tmp 18), (1, Go.Operand.tmp 20), (2, Go.Operand.tmp 22), (3, Go.Operand.tmp 24)], type := 55, pos := "ref.go:22", after := #[{ on := 10, ground := Go.Ground.data }, { on := 12, ground := Go.Ground.data }, { on := 14, ground := Go.Ground.data }, { on := 16, ground := Go.Ground.data }, { on := 20, ground := Go.Ground.gcOnly Go.Departure.lateStores }], guard := none }) (v := ?v_17_1) rfl (by kernel_rfl) (by kernel_rfl) (by kernel_rfl) (fun _ _ _ h => h) (Or.inl ⟨by rfl, ?y_17_1⟩) (by assumption) ?_
    case y_17_1 => (intro wq hSw; (try dsimp only at hSw); go_simp; first | done | with_reducible rfl)
    try simp only [Act.put, List.setIfInBounds_toArray, List.set_cons_zero, List.set_cons_succ]
    refine wpAnyH_ready (rs := [18, 19]) (by kernel_rfl) (by simp) ?_
    refine AllReadyH.cons (o := { dst := some 5, op := Go.Op.alloc 55, type := 0, pos := "ref.go:22", after := #[], guard := none }) rfl (fun KQ hKQ => ?_) (AllReadyH.cons (o := { dst := some 6, op := Go.Op.alloc 55, type := 0, pos := "ref.go:22", after := #[], guard := none }) rfl (fun KQ hKQ => ?_) AllReadyH.nil)
    · go_simp
      refine hKQ.out _ _ ?s_18a (fun hHeld18 => ?_)
      case s_18a => first | (exact hSr.out _ (((Below.refl _ _).alloc (Nat.le_refl _) _).drew)) | (exact hSr.out _ ((((Below.refl _ _).alloc (Nat.le_refl _) _).alloc (by simp) _).drew))
      clear hKQ KQ
      try simp only [Act.put, List.setIfInBounds_toArray, List.set_cons_zero, List.set_cons_succ]
      refine wpAnyH_ready (rs := [19]) (by kernel_rfl) (by simp) ?_
      refine AllReadyH.cons (o := { dst := some 6, op := Go.Op.alloc 55, type := 0, pos := "ref.go:22", after := #[], guard := none }) rfl (fun KQ hKQ => ?_) AllReadyH.nil
      go_simp
      refine hKQ.out _ _ ?s_19a (fun hHeld19 => ?_)
      case s_19a => first | (exact hSr.out _ (((Below.refl _ _).alloc (Nat.le_refl _) _).drew)) | (exact hSr.out _ ((((Below.refl _ _).alloc (Nat.le_refl _) _).alloc (by simp) _).drew))
      clear hKQ KQ
      try simp only [Act.put, List.setIfInBounds_toArray, List.set_cons_zero, List.set_cons_succ]
      refine wpAnyH_ready (rs := [20]) (by kernel_rfl) (by simp) ?_
      refine AllReadyH.cons (o := { dst := none, op := Go.Op.store 55 (Go.Operand.tmp 5) (Go.Operand.tmp 16), type := 0, pos := "ref.go:22", after := #[{ on := 18, ground := Go.Ground.data }, { on := 8, ground := Go.Ground.data }, { on := 0, ground := Go.Ground.phase }, { on := 1, ground := Go.Ground.phase }, { on := 2, ground := Go.Ground.phase }, { on := 3, ground := Go.Ground.phase }, { on := 4, ground := Go.Ground.phase }, { on := 5, ground := Go.Ground.phase }, { on := 6, ground := Go.Ground.phase }, { on := 7, ground := Go.Ground.phase }, { on := 8, ground := Go.Ground.phase }, { on := 9, ground := Go.Ground.textOnly Go.Departure.lateStores }, { on := 10, ground := Go.Ground.textOnly Go.Departure.lateStores }, { on := 11, ground := Go.Ground.textOnly Go.Departure.lateStores }, { on := 12, ground := Go.Ground.textOnly Go.Departure.lateStores }, { on := 13, ground := Go.Ground.textOnly Go.Departure.lateStores }, { on := 14, ground := Go.Ground.textOnly Go.Departure.lateStores }, { on := 15, ground := Go.Ground.textOnly Go.Departure.lateStores }, { on := 16, ground := Go.Ground.textOnly Go.Departure.lateStores }, { on := 17, ground := Go.Ground.textOnly Go.Departure.lateStores }, { on := 18, ground := Go.Ground.phase }, { on := 19, ground := Go.Ground.phase }], guard := none }) rfl (fun KQ hKQ => ?_) AllReadyH.nil
      go_simp
      refine hKQ.out _ _ ?s_20a (fun hHeld20 => ?_)
      case s_20a => first | (exact hSr.out _ (((Below.refl _ _).alloc (Nat.le_refl _) _).drew)) | (exact hSr.out _ ((((Below.refl _ _).alloc (Nat.le_refl _) _).alloc (by simp) _).drew))
      clear hKQ KQ
      try simp only [Act.put]
      refine wpAnyH_ready (rs := [21]) (by kernel_rfl) (by simp) ?_
      refine AllReadyH.cons (o := { dst := none, op := Go.Op.store 55 (Go.Operand.tmp 6) (Go.Operand.tmp 25), type := 0, pos := "ref.go:22", after := #[{ on := 19, ground := Go.Ground.data }, { on := 17, ground := Go.Ground.data }, { on := 20, ground := Go.Ground.chain }, { on := 0, ground := Go.Ground.phase }, { on := 1, ground := Go.Ground.phase }, { on := 2, ground := Go.Ground.phase }, { on := 3, ground := Go.Ground.phase }, { on := 4, ground := Go.Ground.phase }, { on := 5, ground := Go.Ground.phase }, { on := 6, ground := Go.Ground.phase }, { on := 7, ground := Go.Ground.phase }, { on := 8, ground := Go.Ground.phase }, { on := 9, ground := Go.Ground.phase }, { on := 10, ground := Go.Ground.phase }, { on := 11, ground := Go.Ground.phase }, { on := 12, ground := Go.Ground.phase }, { on := 13, ground := Go.Ground.phase }, { on := 14, ground := Go.Ground.phase }, { on := 15, ground := Go.Ground.phase }, { on := 16, ground := Go.Ground.phase }, { on := 17, ground := Go.Ground.phase }, { on := 18, ground := Go.Ground.phase }, { on := 19, ground := Go.Ground.phase }, { on := 20, ground := Go.Ground.phase }], guard := none }) rfl (fun KQ hKQ => ?_) AllReadyH.nil
      go_simp
      refine hKQ.out _ _ ?s_21a (fun hHeld21 => ?_)
      case s_21a => first | (exact hSr.out _ (((Below.refl _ _).alloc (Nat.le_refl _) _).drew)) | (exact hSr.out _ ((((Below.refl _ _).alloc (Nat.le_refl _) _).alloc (by simp) _).drew))
      clear hKQ KQ
      try simp only [Act.put]
      refine wpAnyH_done (by kernel_rfl) ?_ _
      go_wp2_with fail
      go_meet
      case rel => exact ⟨_, _, rfl, rfl, by first | exact blk_fst _ _ _ _ | exact blk_snd _ _ _ _, by first | exact blk_fst _ _ _ _ | exact blk_snd _ _ _ _, (((Below.refl _ _).alloc (Nat.le_refl _) _).alloc (by simp) _).drew⟩
    · go_simp
      refine hKQ.out _ _ ?s_19b (fun hHeld19 => ?_)
      case s_19b => first | (exact hSr.out _ (((Below.refl _ _).alloc (Nat.le_refl _) _).drew)) | (exact hSr.out _ ((((Below.refl _ _).alloc (Nat.le_refl _) _).alloc (by simp) _).drew))
      clear hKQ KQ
      try simp only [Act.put, List.setIfInBounds_toArray, List.set_cons_zero, List.set_cons_succ]
      refine wpAnyH_ready (rs := [18]) (by kernel_rfl) (by simp) ?_
      refine AllReadyH.cons (o := { dst := some 5, op := Go.Op.alloc 55, type := 0, pos := "ref.go:22", after := #[], guard := none }) rfl (fun KQ hKQ => ?_) AllReadyH.nil
      go_simp
      refine hKQ.out _ _ ?s_18b (fun hHeld18 => ?_)
      case s_18b => first | (exact hSr.out _ (((Below.refl _ _).alloc (Nat.le_refl _) _).drew)) | (exact hSr.out _ ((((Below.refl _ _).alloc (Nat.le_refl _) _).alloc (by simp) _).drew))
      clear hKQ KQ
      try simp only [Act.put, List.setIfInBounds_toArray, List.set_cons_zero, List.set_cons_succ]
      refine wpAnyH_ready (rs := [20]) (by kernel_rfl) (by simp) ?_
      refine AllReadyH.cons (o := { dst := none, op := Go.Op.store 55 (Go.Operand.tmp 5) (Go.Operand.tmp 16), type := 0, pos := "ref.go:22", after := #[{ on := 18, ground := Go.Ground.data }, { on := 8, ground := Go.Ground.data }, { on := 0, ground := Go.Ground.phase }, { on := 1, ground := Go.Ground.phase }, { on := 2, ground := Go.Ground.phase }, { on := 3, ground := Go.Ground.phase }, { on := 4, ground := Go.Ground.phase }, { on := 5, ground := Go.Ground.phase }, { on := 6, ground := Go.Ground.phase }, { on := 7, ground := Go.Ground.phase }, { on := 8, ground := Go.Ground.phase }, { on := 9, ground := Go.Ground.textOnly Go.Departure.lateStores }, { on := 10, ground := Go.Ground.textOnly Go.Departure.lateStores }, { on := 11, ground := Go.Ground.textOnly Go.Departure.lateStores }, { on := 12, ground := Go.Ground.textOnly Go.Departure.lateStores }, { on := 13, ground := Go.Ground.textOnly Go.Departure.lateStores }, { on := 14, ground := Go.Ground.textOnly Go.Departure.lateStores }, { on := 15, ground := Go.Ground.textOnly Go.Departure.lateStores }, { on := 16, ground := Go.Ground.textOnly Go.Departure.lateStores }, { on := 17, ground := Go.Ground.textOnly Go.Departure.lateStores }, { on := 18, ground := Go.Ground.phase }, { on := 19, ground := Go.Ground.phase }], guard := none }) rfl (fun KQ hKQ => ?_) AllReadyH.nil
      go_simp
      refine hKQ.out _ _ ?s_20b (fun hHeld20 => ?_)
      case s_20b => first | (exact hSr.out _ (((Below.refl _ _).alloc (Nat.le_refl _) _).drew)) | (exact hSr.out _ ((((Below.refl _ _).alloc (Nat.le_refl _) _).alloc (by simp) _).drew))
      clear hKQ KQ
      try simp only [Act.put]
      refine wpAnyH_ready (rs := [21]) (by kernel_rfl) (by simp) ?_
      refine AllReadyH.cons (o := { dst := none, op := Go.Op.store 55 (Go.Operand.tmp 6) (Go.Operand.tmp 25), type := 0, pos := "ref.go:22", after := #[{ on := 19, ground := Go.Ground.data }, { on := 17, ground := Go.Ground.data }, { on := 20, ground := Go.Ground.chain }, { on := 0, ground := Go.Ground.phase }, { on := 1, ground := Go.Ground.phase }, { on := 2, ground := Go.Ground.phase }, { on := 3, ground := Go.Ground.phase }, { on := 4, ground := Go.Ground.phase }, { on := 5, ground := Go.Ground.phase }, { on := 6, ground := Go.Ground.phase }, { on := 7, ground := Go.Ground.phase }, { on := 8, ground := Go.Ground.phase }, { on := 9, ground := Go.Ground.phase }, { on := 10, ground := Go.Ground.phase }, { on := 11, ground := Go.Ground.phase }, { on := 12, ground := Go.Ground.phase }, { on := 13, ground := Go.Ground.phase }, { on := 14, ground := Go.Ground.phase }, { on := 15, ground := Go.Ground.phase }, { on := 16, ground := Go.Ground.phase }, { on := 17, ground := Go.Ground.phase }, { on := 18, ground := Go.Ground.phase }, { on := 19, ground := Go.Ground.phase }, { on := 20, ground := Go.Ground.phase }], guard := none }) rfl (fun KQ hKQ => ?_) AllReadyH.nil
      go_simp
      refine hKQ.out _ _ ?s_21b (fun hHeld21 => ?_)
      case s_21b => first | (exact hSr.out _ (((Below.refl _ _).alloc (Nat.le_refl _) _).drew)) | (exact hSr.out _ ((((Below.refl _ _).alloc (Nat.le_refl _) _).alloc (by simp) _).drew))
      clear hKQ KQ
      try simp only [Act.put]
      refine wpAnyH_done (by kernel_rfl) ?_ _
      go_wp2_with fail
      go_meet
      case rel => exact ⟨_, _, rfl, rfl, by first | exact blk_fst _ _ _ _ | exact blk_snd _ _ _ _, by first | exact blk_fst _ _ _ _ | exact blk_snd _ _ _ _, (((Below.refl _ _).alloc (Nat.le_refl _) _).alloc (by simp) _).drew⟩
  case rest =>
    obtain ⟨x, y, rfl, rfl, hx, hy, hBc⟩ := hcut
    have HX := Lib.hid (fun j => hx.cell j)
    have HY := Lib.hid (fun j => hy.cell j)
    have hBf : Hid (Below w.heap.size w wc) := hB2.out.trans (hBc.mono (by omega))
    have row4 : ∀ (p q r s : Int) (j : Nat), j < 4 → [Value.int .i64 p, .int .i64 q, .int .i64 r, .int .i64 s][j]? = some (.int .i64 ([p, q, r, s].getD j 0)) := by
      intro p q r s j hj
      rcases j with _ | _ | _ | _ | j
      iterate 4 rfl
      omega
    have HR := Lib.hid row4
    clear row4 hx hy hBc hSr hB2 l1
    go_wp2_with fail
    go_loopw [7] (fun i wr => ∃ (j n : Nat), j ≤ 4 ∧ i = .int .i64 j ∧ wr = wc.drewN n ∧ ∀ k, k < j → (TrL.mk xa xb xc xd).row.getD k 0 = (TrL.mk ya yb yc yd).row.getD k 0) (fun i _ => 4 - (intOf i).toNat)
    case atStart => exact ⟨0, 0, by omega, rfl, rfl, fun k hk => absurd hk (by omega)⟩
    case round =>
      obtain ⟨j, n, hj, rfl, rfl, hk⟩ := hrel
      have HK := Lib.hid hk
      clear hk
      by_cases hlt : j < 4
      · have e1 := HX.out j
        have e2 := HY.out j
        rw [HR.out _ _ _ _ j hlt] at e1 e2
        obtain ⟨p, hp⟩ : ∃ p, [xa, xb, xc, xd].getD j 0 = p := ⟨_, rfl⟩
        obtain ⟨q, hq⟩ : ∃ q, [ya, yb, yc, yd].getD j 0 = q := ⟨_, rfl⟩
        rw [hp] at e1
        rw [hq] at e2
        have i0 : (0 : Int) ≤ j ∧ (j : Int) < 4 := by omega
        by_cases hpq : p = q
        · have HN : Hid (∀ k, k < j + 1 → (TrL.mk xa xb xc xd).row.getD k 0 = (TrL.mk ya yb yc yd).row.getD k 0) := fun k hk => by
            rcases Nat.lt_or_ge k j with h | h
            · exact HK.out k h
            · obtain rfl : k = j := by omega
              exact hp.trans (hpq.trans hq.symm)
          clear hp hq
          subst hpq
          go_wp2_with fail
          go_quiet (fail)
          go_wp2_with fail
          go_roundw
          case rel => exact ⟨j + 1, _, by omega, by go_num, rfl, HN.out⟩
          case measure => simp [intOf]; omega
        · have hne : (p != q) = true := by simpa using hpq
          have HQ := Lib.hid (HT.out j hlt HK.out (by intro h; exact hpq (hp.symm.trans (h.trans hq))))
          have HP : Hid (decide ((TrL.mk xa xb xc xd).row.getD j 0 < (TrL.mk ya yb yc yd).row.getD j 0) = decide (p < q)) := by
            show decide ([xa, xb, xc, xd].getD j 0 < [ya, yb, yc, yd].getD j 0) = _
            rw [hp, hq]
          clear hp hq
          go_wp2_with fail
          go_quiet (fail)
          go_wp2_with fail
          go_quiet (fail)
          go_wp2_with fail
          go_ret
          exact ⟨by rw [HQ.out, HP.out]; rfl, below_drewN (below_drewN (below_drewN hBf.out _) _) _⟩
      · obtain rfl : j = 4 := by omega
        go_wp2_with fail
        go_ret
        exact ⟨by rw [HE.out HK.out]; rfl, below_drewN hBf.out _⟩
end Go.Proofs.Ytpalhpkbdkodfaa.ref6
