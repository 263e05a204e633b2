/- StampOrder answers true: which stamp, which attempt is the lesser one is as the document says. Conditions: int64. -/
import Derived.Test.YtpalhpkbdkodfaaStampLaw
import Derived.Deep.RegionHeld3
namespace Go.Proofs.Ytpalhpkbdkodfaa.law6
open Go.RowKit Go.Proofs.Ytpalhpkbdkodfaa.kit Go.Proofs.Ytpalhpkbdkodfaa.nums Go.Proofs.Ytpalhpkbdkodfaa.st Go.Proofs.Ytpalhpkbdkodfaa.ref6 Go.Proofs.Ytpalhpkbdkodfaa.bytes
set_option linter.unusedVariables false

theorem blk_at (w : World) (E : TypeId) (cs : List Value) (g : Nat) (hg : w.heap.size = g) : Blk E (w.alloc (.cells cs.toArray E)) g cs := by
  subst hg; exact heap_alloc_new w _
set_option maxRecDepth 100000 in
set_option maxHeartbeats 2000000 in
theorem order_walk (a b : StL) (x y : TrL) (w : World) (ha : a.ok) (hb : b.ok) (hx : x.ok) (hy : y.ok) :
    Calls Try.prog 3 #[stV a, stV b, trV x, trV y] w fun e w' => e = .returned (.bool true) ∧ Below w.heap.size w w' := by
  have CB := Lib.hid (fun w => begun_any w)
  have C1 := Lib.hid (fun w => stamp.less_any a b ha hb w)
  have C2 := Lib.hid (fun w => ref6.less_any a b w)
  have C3 := Lib.hid (fun w => stamp.max_any a b ha hb w)
  have C4 := Lib.hid (fun w => ref6.max_any a b w)
  have C5 := Lib.hid (fun w => stamp.lessT_any x y hx hy w)
  have C6 := Lib.hid (fun w => ref6.lessT_any x y w)
  generalize lessF a b = f1 at *
  obtain ⟨⟨u, v⟩, hm⟩ : ∃ z, maxF a b = z := ⟨_, rfl⟩
  rw [hm] at C3 C4
  generalize lessT x y = f2 at *
  obtain ⟨p, q⟩ := a
  obtain ⟨r, s⟩ := b
  obtain ⟨xa, xb, xc, xd⟩ := x
  obtain ⟨ya, yb, yc, yd⟩ := y
  unfold stV trV at *
  dsimp only at C1 C2 C3 C4 C5 C6 ⊢
  clear hm ha hb hx hy
  go_enter Try.func3, Try.ntmps3
  have k0 : Blk 23 ((((w.alloc (.cells #[.int .i64 p, .int .i64 q] 23)).alloc (.cells #[.int .i64 r, .int .i64 s] 23)).alloc (.cells #[.int .i64 xa, .int .i64 xb, .int .i64 xc, .int .i64 xd] 25)).alloc (.cells #[.int .i64 ya, .int .i64 yb, .int .i64 yc, .int .i64 yd] 25)) w.heap.size [.int .i64 p, .int .i64 q] := Blk.alloc (Blk.alloc (Blk.alloc (blk_at _ _ _ _ rfl) _) _) _
  have k1 : Blk 23 ((((w.alloc (.cells #[.int .i64 p, .int .i64 q] 23)).alloc (.cells #[.int .i64 r, .int .i64 s] 23)).alloc (.cells #[.int .i64 xa, .int .i64 xb, .int .i64 xc, .int .i64 xd] 25)).alloc (.cells #[.int .i64 ya, .int .i64 yb, .int .i64 yc, .int .i64 yd] 25)) (w.heap.size + 1) [.int .i64 r, .int .i64 s] := Blk.alloc (Blk.alloc (blk_at _ _ _ _ (by simp)) _) _
  have k2 : Blk 25 ((((w.alloc (.cells #[.int .i64 p, .int .i64 q] 23)).alloc (.cells #[.int .i64 r, .int .i64 s] 23)).alloc (.cells #[.int .i64 xa, .int .i64 xb, .int .i64 xc, .int .i64 xd] 25)).alloc (.cells #[.int .i64 ya, .int .i64 yb, .int .i64 yc, .int .i64 yd] 25)) (w.heap.size + 2) [.int .i64 xa, .int .i64 xb, .int .i64 xc, .int .i64 xd] := Blk.alloc (blk_at _ _ _ _ (by simp)) _
  have k3 : Blk 25 ((((w.alloc (.cells #[.int .i64 p, .int .i64 q] 23)).alloc (.cells #[.int .i64 r, .int .i64 s] 23)).alloc (.cells #[.int .i64 xa, .int .i64 xb, .int .i64 xc, .int .i64 xd] 25)).alloc (.cells #[.int .i64 ya, .int .i64 yb, .int .i64 yc, .int .i64 yd] 25)) (w.heap.size + 3) [.int .i64 ya, .int .i64 yb, .int .i64 yc, .int .i64 yd] := blk_at _ _ _ _ (by simp)
  have hB0 : Hid (Below w.heap.size w ((((w.alloc (.cells #[.int .i64 p, .int .i64 q] 23)).alloc (.cells #[.int .i64 r, .int .i64 s] 23)).alloc (.cells #[.int .i64 xa, .int .i64 xb, .int .i64 xc, .int .i64 xd] 25)).alloc (.cells #[.int .i64 ya, .int .i64 yb, .int .i64 yc, .int .i64 yd] 25))) := ((((Below.refl _ _).alloc (Nat.le_refl _) _).alloc (by simp) _).alloc (by simp; omega) _).alloc (by simp; omega) _
  go_upto_region 1 with (fail)
  generalize ((((w.alloc (.cells #[.int .i64 p, .int .i64 q] 23)).alloc (.cells #[.int .i64 r, .int .i64 s] 23)).alloc (.cells #[.int .i64 xa, .int .i64 xb, .int .i64 xc, .int .i64 xd] 25)).alloc (.cells #[.int .i64 ya, .int .i64 yb, .int .i64 yc, .int .i64 yd] 25)) = w0 at *
  have HS : Hid (∀ wq, Below w0.drew.heap.size w0.drew wq → (wq.cell? ⟨w.heap.size, 0, none⟩ = some (.int .i64 p) ∧ wq.cell? ⟨w.heap.size, 1, none⟩ = some (.int .i64 q)) ∧ (wq.cell? ⟨w.heap.size + 1, 0, none⟩ = some (.int .i64 r) ∧ wq.cell? ⟨w.heap.size + 1, 1, none⟩ = some (.int .i64 s)) ∧ (wq.cell? ⟨w.heap.size + 2, 0, none⟩ = some (.int .i64 xa) ∧ wq.cell? ⟨w.heap.size + 2, 1, none⟩ = some (.int .i64 xb) ∧ wq.cell? ⟨w.heap.size + 2, 2, none⟩ = some (.int .i64 xc) ∧ wq.cell? ⟨w.heap.size + 2, 3, none⟩ = some (.int .i64 xd)) ∧ (wq.cell? ⟨w.heap.size + 3, 0, none⟩ = some (.int .i64 ya) ∧ wq.cell? ⟨w.heap.size + 3, 1, none⟩ = some (.int .i64 yb) ∧ wq.cell? ⟨w.heap.size + 3, 2, none⟩ = some (.int .i64 yc) ∧ wq.cell? ⟨w.heap.size + 3, 3, none⟩ = some (.int .i64 yd))) := fun wq hq => by
    have n0 := k0.drew.below hq k0.lt
    have n1 := k1.drew.below hq k1.lt
    have n2 := k2.drew.below hq k2.lt
    have n3 := k3.drew.below hq k3.lt
    exact ⟨⟨n0.cell 0, n0.cell 1⟩, ⟨n1.cell 0, n1.cell 1⟩, ⟨n2.cell 0, n2.cell 1, n2.cell 2, n2.cell 3⟩, n3.cell 0, n3.cell 1, n3.cell 2, n3.cell 3⟩
  clear k0 k1 k2 k3
  refine wp_region_held_drew (S := fun wq => (wq.cell? ⟨w.heap.size, 0, none⟩ = some (.int .i64 p) ∧ wq.cell? ⟨w.heap.size, 1, none⟩ = some (.int .i64 q)) ∧ (wq.cell? ⟨w.heap.size + 1, 0, none⟩ = some (.int .i64 r) ∧ wq.cell? ⟨w.heap.size + 1, 1, none⟩ = some (.int .i64 s)) ∧ (wq.cell? ⟨w.heap.size + 2, 0, none⟩ = some (.int .i64 xa) ∧ wq.cell? ⟨w.heap.size + 2, 1, none⟩ = some (.int .i64 xb) ∧ wq.cell? ⟨w.heap.size + 2, 2, none⟩ = some (.int .i64 xc) ∧ wq.cell? ⟨w.heap.size + 2, 3, none⟩ = some (.int .i64 xd)) ∧ (wq.cell? ⟨w.heap.size + 3, 0, none⟩ = some (.int .i64 ya) ∧ wq.cell? ⟨w.heap.size + 3, 1, none⟩ = some (.int .i64 yb) ∧ wq.cell? ⟨w.heap.size + 3, 2, none⟩ = some (.int .i64 yc) ∧ wq.cell? ⟨w.heap.size + 3, 3, none⟩ = some (.int .i64 yd))) (by kernel_rfl) ?s_0 (fun hHeld => ?_)
  case s_0 => exact HS.out _ (Below.refl _ _)
  refine wpAnyH_ready (rs := [0]) (by kernel_rfl) (by simp) ?_
  refine AllReadyH.cons (o := { dst := some 9, op := Go.Op.call { callee := Go.Callee.value (Go.Operand.func 10), args := #[], argTypes := #[] }, type := 4, pos := "law.go:20", after := #[], guard := none }) rfl (fun KQ hKQ => ?_) AllReadyH.nil
  go_simp
  refine (CB.out _).mono ?_
  rintro e y0 ⟨rfl, hY0⟩
  have q0 := hY0
  have r0 := HS.out _ q0
  go_wp2_with fail
  refine hKQ.out _ _ ?s_0 (fun hHeld0 => ?_)
  case s_0 => exact r0
  clear hKQ KQ
  try simp only [Act.put, List.setIfInBounds_toArray, List.set_cons_zero, List.set_cons_succ]
  refine wpAnyH_take (i := 1) (oi := { dst := some 10, op := Go.Op.move (Go.Operand.tmp 9), type := 4, pos := "law.go:20", after := #[{ on := 0, ground := Go.Ground.data }, { on := 0, ground := Go.Ground.chain }], guard := none }) (v := ?v_1_1) rfl (by kernel_rfl) (by kernel_rfl) (by kernel_rfl) (fun _ _ _ h => h) (Or.inl ⟨by rfl, ?y_1_1⟩) (by assumption) ?_
  case y_1_1 => (intro wq hSw; (try dsimp only at hSw); go_simp; first | done | with_reducible rfl)
  try simp only [Act.put, List.setIfInBounds_toArray, List.set_cons_zero, List.set_cons_succ]
  refine wpAnyH_take (i := 2) (oi := { dst := some 11, op := Go.Op.load 23 (Go.Operand.tmp 4), type := 23, pos := "law.go:20", after := #[{ on := 1, ground := Go.Ground.guard }], guard := some (1, true) }) (v := ?v_2_1) rfl (by kernel_rfl) (by kernel_rfl) (by kernel_rfl) (fun _ _ _ h => h) (Or.inl ⟨by rfl, ?y_2_1⟩) (by assumption) ?_
  case y_2_1 => (intro wq hSw; (try dsimp only at hSw); go_simp; first | done | with_reducible rfl)
  try simp only [Act.put, List.setIfInBounds_toArray, List.set_cons_zero, List.set_cons_succ]
  refine wpAnyH_take (i := 3) (oi := { dst := some 12, op := Go.Op.load 23 (Go.Operand.tmp 5), type := 23, pos := "law.go:20", after := #[{ on := 1, ground := Go.Ground.guard }], guard := some (1, true) }) (v := ?v_3_1) rfl (by kernel_rfl) (by kernel_rfl) (by kernel_rfl) (fun _ _ _ h => h) (Or.inl ⟨by rfl, ?y_3_1⟩) (by assumption) ?_
  case y_3_1 => (intro wq hSw; (try dsimp only at hSw); go_simp; first | done | with_reducible rfl)
  try simp only [Act.put, List.setIfInBounds_toArray, List.set_cons_zero, List.set_cons_succ]
  refine wpAnyH_take (i := 5) (oi := { dst := some 14, op := Go.Op.load 23 (Go.Operand.tmp 4), type := 23, pos := "law.go:20", after := #[{ on := 1, ground := Go.Ground.guard }], guard := some (1, true) }) (v := ?v_5_1) rfl (by kernel_rfl) (by kernel_rfl) (by kernel_rfl) (fun _ _ _ h => h) (Or.inl ⟨by rfl, ?y_5_1⟩) (by assumption) ?_
  case y_5_1 => (intro wq hSw; (try dsimp only at hSw); go_simp; first | done | with_reducible rfl)
  try simp only [Act.put, List.setIfInBounds_toArray, List.set_cons_zero, List.set_cons_succ]
  refine wpAnyH_take (i := 6) (oi := { dst := some 15, op := Go.Op.load 23 (Go.Operand.tmp 5), type := 23, pos := "law.go:20", after := #[{ on := 1, ground := Go.Ground.guard }], guard := some (1, true) }) (v := ?v_6_1) rfl (by kernel_rfl) (by kernel_rfl) (by kernel_rfl) (fun _ _ _ h => h) (Or.inl ⟨by rfl, ?y_6_1⟩) (by assumption) ?_
  case y_6_1 => (intro wq hSw; (try dsimp only at hSw); go_simp; first | done | with_reducible rfl)
  try simp only [Act.put, List.setIfInBounds_toArray, List.set_cons_zero, List.set_cons_succ]
  refine wpAnyH_ready (rs := [4]) (by kernel_rfl) (by simp) ?_
  refine AllReadyH.cons (o := { dst := some 13, op := Go.Op.call { callee := Go.Callee.value (Go.Operand.func 11), args := #[Go.Operand.tmp 11, Go.Operand.tmp 12], argTypes := #[23, 23] }, type := 4, pos := "law.go:20", after := #[{ on := 2, ground := Go.Ground.data }, { on := 3, ground := Go.Ground.data }, { on := 1, ground := Go.Ground.chain }, { on := 1, ground := Go.Ground.guard }], guard := some (1, true) }) rfl (fun KQ hKQ => ?_) AllReadyH.nil
  go_simp
  refine (C1.out _).mono ?_
  rintro e y4 ⟨rfl, hY4⟩
  have q4 := q0.trans (hY4.mono q0.size)
  have r4 := HS.out _ q4
  go_wp2_with fail
  refine hKQ.out _ _ ?s_4 (fun hHeld4 => ?_)
  case s_4 => exact r4
  clear hKQ KQ
  try simp only [Act.put, List.setIfInBounds_toArray, List.set_cons_zero, List.set_cons_succ]
  refine wpAnyH_ready (rs := [7]) (by kernel_rfl) (by simp) ?_
  refine AllReadyH.cons (o := { dst := some 16, op := Go.Op.call { callee := Go.Callee.value (Go.Operand.func 12), args := #[Go.Operand.tmp 14, Go.Operand.tmp 15], argTypes := #[23, 23] }, type := 4, pos := "law.go:20", after := #[{ on := 5, ground := Go.Ground.data }, { on := 6, ground := Go.Ground.data }, { on := 4, ground := Go.Ground.chain }, { on := 1, ground := Go.Ground.guard }], guard := some (1, true) }) rfl (fun KQ hKQ => ?_) AllReadyH.nil
  go_simp
  refine (C2.out _).mono ?_
  rintro e y7 ⟨rfl, hY7⟩
  have q7 := q4.trans (hY7.mono q4.size)
  have r7 := HS.out _ q7
  go_wp2_with fail
  refine hKQ.out _ _ ?s_7 (fun hHeld7 => ?_)
  case s_7 => exact r7
  clear hKQ KQ
  try simp only [Act.put, List.setIfInBounds_toArray, List.set_cons_zero, List.set_cons_succ]
  refine wpAnyH_take (i := 8) (oi := { dst := some 17, op := Go.Op.binOp Go.BinOp.eql 4 (Go.Operand.tmp 13) (Go.Operand.tmp 16) 4, type := 4, pos := "law.go:20", after := #[{ on := 4, ground := Go.Ground.data }, { on := 7, ground := Go.Ground.data }, { on := 1, ground := Go.Ground.guard }], guard := some (1, true) }) (v := ?v_8_1) rfl (by kernel_rfl) (by kernel_rfl) (by kernel_rfl) (fun _ _ _ h => h) (Or.inl ⟨by rfl, ?y_8_1⟩) (by assumption) ?_
  case y_8_1 => (intro wq hSw; (try dsimp only at hSw); go_simp; first | done | with_reducible rfl)
  try simp only [Act.put, List.setIfInBounds_toArray, List.set_cons_zero, List.set_cons_succ]
  refine wpAnyH_take (i := 9) (oi := { dst := some 18, op := Go.Op.pick (Go.Operand.tmp 10) (Go.Operand.tmp 17) (Go.Operand.const (Go.Value.bool false)), type := 4, pos := "law.go:20", after := #[{ on := 1, ground := Go.Ground.data }, { on := 8, ground := Go.Ground.data }], guard := none }) (v := ?v_9_1) rfl (by kernel_rfl) (by kernel_rfl) (by kernel_rfl) (fun _ _ _ h => h) (Or.inl ⟨by rfl, ?y_9_1⟩) (by assumption) ?_
  case y_9_1 => (intro wq hSw; (try dsimp only at hSw); go_simp; first | done | with_reducible rfl)
  try simp only [Act.put, List.setIfInBounds_toArray, List.set_cons_zero, List.set_cons_succ]
  refine wpAnyH_take (i := 10) (oi := { dst := some 19, op := Go.Op.move (Go.Operand.tmp 18), type := 4, pos := "law.go:20", after := #[{ on := 9, ground := Go.Ground.data }, { on := 7, ground := Go.Ground.chain }], guard := none }) (v := ?v_10_1) rfl (by kernel_rfl) (by kernel_rfl) (by kernel_rfl) (fun _ _ _ h => h) (Or.inl ⟨by rfl, ?y_10_1⟩) (by assumption) ?_
  case y_10_1 => (intro wq hSw; (try dsimp only at hSw); go_simp; first | done | with_reducible rfl)
  try simp only [Act.put, List.setIfInBounds_toArray, List.set_cons_zero, List.set_cons_succ]
  refine wpAnyH_take (i := 11) (oi := { dst := some 20, op := Go.Op.load 23 (Go.Operand.tmp 4), type := 23, pos := "law.go:20", after := #[{ on := 10, ground := Go.Ground.guard }], guard := some (10, true) }) (v := ?v_11_1) rfl (by kernel_rfl) (by kernel_rfl) (by kernel_rfl) (fun _ _ _ h => h) (Or.inl ⟨by rfl, ?y_11_1⟩) (by assumption) ?_
  case y_11_1 => (intro wq hSw; (try dsimp only at hSw); go_simp; first | done | with_reducible rfl)
  try simp only [Act.put, List.setIfInBounds_toArray, List.set_cons_zero, List.set_cons_succ]
  refine wpAnyH_take (i := 12) (oi := { dst := some 21, op := Go.Op.load 23 (Go.Operand.tmp 5), type := 23, pos := "law.go:20", after := #[{ on := 10, ground := Go.Ground.guard }], guard := some (10, true) }) (v := ?v_12_1) rfl (by kernel_rfl) (by kernel_rfl) (by kernel_rfl) (fun _ _ _ h => h) (Or.inl ⟨by rfl, ?y_12_1⟩) (by assumption) ?_
  case y_12_1 => (intro wq hSw; (try dsimp only at hSw); go_simp; first | done | with_reducible rfl)
  try simp only [Act.put, List.setIfInBounds_toArray, List.set_cons_zero, List.set_cons_succ]
  refine wpAnyH_take (i := 14) (oi := { dst := some 23, op := Go.Op.load 23 (Go.Operand.tmp 4), type := 23, pos := "law.go:20", after := #[{ on := 10, ground := Go.Ground.guard }], guard := some (10, true) }) (v := ?v_14_1) rfl (by kernel_rfl) (by kernel_rfl) (by kernel_rfl) (fun _ _ _ h => h) (Or.inl ⟨by rfl, ?y_14_1⟩) (by assumption) ?_
  case y_14_1 => (intro wq hSw; (try dsimp only at hSw); go_simp; first | done | with_reducible rfl)
  try simp only [Act.put, List.setIfInBounds_toArray, List.set_cons_zero, List.set_cons_succ]
  refine wpAnyH_take (i := 15) (oi := { dst := some 24, op := Go.Op.load 23 (Go.Operand.tmp 5), type := 23, pos := "law.go:20", after := #[{ on := 10, ground := Go.Ground.guard }], guard := some (10, true) }) (v := ?v_15_1) rfl (by kernel_rfl) (by kernel_rfl) (by kernel_rfl) (fun _ _ _ h => h) (Or.inl ⟨by rfl, ?y_15_1⟩) (by assumption) ?_
  case y_15_1 => (intro wq hSw; (try dsimp only at hSw); go_simp; first | done | with_reducible rfl)
  try simp only [Act.put, List.setIfInBounds_toArray, List.set_cons_zero, List.set_cons_succ]
  refine wpAnyH_ready (rs := [13]) (by kernel_rfl) (by simp) ?_
  refine AllReadyH.cons (o := { dst := some 22, op := Go.Op.call { callee := Go.Callee.value (Go.Operand.func 13), args := #[Go.Operand.tmp 20, Go.Operand.tmp 21], argTypes := #[23, 23] }, type := 23, pos := "law.go:20", after := #[{ on := 11, ground := Go.Ground.data }, { on := 12, ground := Go.Ground.data }, { on := 10, ground := Go.Ground.chain }, { on := 10, ground := Go.Ground.guard }], guard := some (10, true) }) rfl (fun KQ hKQ => ?_) AllReadyH.nil
  go_simp
  refine (C3.out _).mono ?_
  rintro e y13 ⟨rfl, hY13⟩
  have q13 := q7.trans (hY13.mono q7.size)
  have r13 := HS.out _ q13
  go_wp2_with fail
  refine hKQ.out _ _ ?s_13 (fun hHeld13 => ?_)
  case s_13 => exact r13
  clear hKQ KQ
  try simp only [Act.put, List.setIfInBounds_toArray, List.set_cons_zero, List.set_cons_succ]
  refine wpAnyH_ready (rs := [16]) (by kernel_rfl) (by simp) ?_
  refine AllReadyH.cons (o := { dst := some 25, op := Go.Op.call { callee := Go.Callee.value (Go.Operand.func 14), args := #[Go.Operand.tmp 23, Go.Operand.tmp 24], argTypes := #[23, 23] }, type := 23, pos := "law.go:20", after := #[{ on := 14, ground := Go.Ground.data }, { on := 15, ground := Go.Ground.data }, { on := 13, ground := Go.Ground.chain }, { on := 10, ground := Go.Ground.guard }], guard := some (10, true) }) rfl (fun KQ hKQ => ?_) AllReadyH.nil
  go_simp
  refine (C4.out _).mono ?_
  rintro e y16 ⟨rfl, hY16⟩
  have q16 := q13.trans (hY16.mono q13.size)
  have r16 := HS.out _ q16
  go_wp2_with fail
  refine hKQ.out _ _ ?s_16 (fun hHeld16 => ?_)
  case s_16 => exact r16
  clear hKQ KQ
  try simp only [Act.put, List.setIfInBounds_toArray, List.set_cons_zero, List.set_cons_succ]
  refine wpAnyH_take (i := 17) (oi := { dst := some 26, op := Go.Op.binOp Go.BinOp.eql 23 (Go.Operand.tmp 22) (Go.Operand.tmp 25) 23, type := 4, pos := "law.go:20", after := #[{ on := 13, ground := Go.Ground.data }, { on := 16, ground := Go.Ground.data }, { on := 10, ground := Go.Ground.guard }], guard := some (10, true) }) (v := ?v_17_1) rfl (by kernel_rfl) (by kernel_rfl) (by kernel_rfl) (fun _ _ _ h => h) (Or.inl ⟨by rfl, ?y_17_1⟩) (by assumption) ?_
  case y_17_1 => (intro wq hSw; (try dsimp only at hSw); go_simp; first | done | with_reducible rfl)
  try simp only [Act.put, List.setIfInBounds_toArray, List.set_cons_zero, List.set_cons_succ]
  refine wpAnyH_take (i := 18) (oi := { dst := some 27, op := Go.Op.pick (Go.Operand.tmp 19) (Go.Operand.tmp 26) (Go.Operand.const (Go.Value.bool false)), type := 4, pos := "law.go:20", after := #[{ on := 10, ground := Go.Ground.data }, { on := 17, ground := Go.Ground.data }], guard := none }) (v := ?v_18_1) rfl (by kernel_rfl) (by kernel_rfl) (by kernel_rfl) (fun _ _ _ h => h) (Or.inl ⟨by rfl, ?y_18_1⟩) (by assumption) ?_
  case y_18_1 => (intro wq hSw; (try dsimp only at hSw); go_simp; first | done | with_reducible rfl)
  try simp only [Act.put, List.setIfInBounds_toArray, List.set_cons_zero, List.set_cons_succ]
  refine wpAnyH_take (i := 19) (oi := { dst := some 28, op := Go.Op.move (Go.Operand.tmp 27), type := 4, pos := "law.go:20", after := #[{ on := 18, ground := Go.Ground.data }, { on := 16, ground := Go.Ground.chain }], guard := none }) (v := ?v_19_1) rfl (by kernel_rfl) (by kernel_rfl) (by kernel_rfl) (fun _ _ _ h => h) (Or.inl ⟨by rfl, ?y_19_1⟩) (by assumption) ?_
  case y_19_1 => (intro wq hSw; (try dsimp only at hSw); go_simp; first | done | with_reducible rfl)
  try simp only [Act.put, List.setIfInBounds_toArray, List.set_cons_zero, List.set_cons_succ]
  refine wpAnyH_take (i := 20) (oi := { dst := some 29, op := Go.Op.load 25 (Go.Operand.tmp 6), type := 25, pos := "law.go:20", after := #[{ on := 19, ground := Go.Ground.guard }], guard := some (19, true) }) (v := ?v_20_1) rfl (by kernel_rfl) (by kernel_rfl) (by kernel_rfl) (fun _ _ _ h => h) (Or.inl ⟨by rfl, ?y_20_1⟩) (by assumption) ?_
  case y_20_1 => (intro wq hSw; (try dsimp only at hSw); go_simp; first | done | with_reducible rfl)
  try simp only [Act.put, List.setIfInBounds_toArray, List.set_cons_zero, List.set_cons_succ]
  refine wpAnyH_take (i := 21) (oi := { dst := some 30, op := Go.Op.load 25 (Go.Operand.tmp 7), type := 25, pos := "law.go:20", after := #[{ on := 19, ground := Go.Ground.guard }], guard := some (19, true) }) (v := ?v_21_1) rfl (by kernel_rfl) (by kernel_rfl) (by kernel_rfl) (fun _ _ _ h => h) (Or.inl ⟨by rfl, ?y_21_1⟩) (by assumption) ?_
  case y_21_1 => (intro wq hSw; (try dsimp only at hSw); go_simp; first | done | with_reducible rfl)
  try simp only [Act.put, List.setIfInBounds_toArray, List.set_cons_zero, List.set_cons_succ]
  refine wpAnyH_take (i := 23) (oi := { dst := some 32, op := Go.Op.load 25 (Go.Operand.tmp 6), type := 25, pos := "law.go:20", after := #[{ on := 19, ground := Go.Ground.guard }], guard := some (19, true) }) (v := ?v_23_1) rfl (by kernel_rfl) (by kernel_rfl) (by kernel_rfl) (fun _ _ _ h => h) (Or.inl ⟨by rfl, ?y_23_1⟩) (by assumption) ?_
  case y_23_1 => (intro wq hSw; (try dsimp only at hSw); go_simp; first | done | with_reducible rfl)
  try simp only [Act.put, List.setIfInBounds_toArray, List.set_cons_zero, List.set_cons_succ]
  refine wpAnyH_take (i := 24) (oi := { dst := some 33, op := Go.Op.load 25 (Go.Operand.tmp 7), type := 25, pos := "law.go:20", after := #[{ on := 19, ground := Go.Ground.guard }], guard := some (19, true) }) (v := ?v_24_1) rfl (by kernel_rfl) (by kernel_rfl) (by kernel_rfl) (fun _ _ _ h => h) (Or.inl ⟨by rfl, ?y_24_1⟩) (by assumption) ?_
  case y_24_1 => (intro wq hSw; (try dsimp only at hSw); go_simp; first | done | with_reducible rfl)
  try simp only [Act.put, List.setIfInBounds_toArray, List.set_cons_zero, List.set_cons_succ]
  refine wpAnyH_ready (rs := [22]) (by kernel_rfl) (by simp) ?_
  refine AllReadyH.cons (o := { dst := some 31, op := Go.Op.call { callee := Go.Callee.value (Go.Operand.func 15), args := #[Go.Operand.tmp 29, Go.Operand.tmp 30], argTypes := #[25, 25] }, type := 4, pos := "law.go:20", after := #[{ on := 20, ground := Go.Ground.data }, { on := 21, ground := Go.Ground.data }, { on := 19, ground := Go.Ground.chain }, { on := 19, ground := Go.Ground.guard }], guard := some (19, true) }) rfl (fun KQ hKQ => ?_) AllReadyH.nil
  go_simp
  refine (C5.out _).mono ?_
  rintro e y22 ⟨rfl, hY22⟩
  have q22 := q16.trans (hY22.mono q16.size)
  have r22 := HS.out _ q22
  go_wp2_with fail
  refine hKQ.out _ _ ?s_22 (fun hHeld22 => ?_)
  case s_22 => exact r22
  clear hKQ KQ
  try simp only [Act.put, List.setIfInBounds_toArray, List.set_cons_zero, List.set_cons_succ]
  refine wpAnyH_ready (rs := [25]) (by kernel_rfl) (by simp) ?_
  refine AllReadyH.cons (o := { dst := some 34, op := Go.Op.call { callee := Go.Callee.value (Go.Operand.func 16), args := #[Go.Operand.tmp 32, Go.Operand.tmp 33], argTypes := #[25, 25] }, type := 4, pos := "law.go:20", after := #[{ on := 23, ground := Go.Ground.data }, { on := 24, ground := Go.Ground.data }, { on := 22, ground := Go.Ground.chain }, { on := 19, ground := Go.Ground.guard }], guard := some (19, true) }) rfl (fun KQ hKQ => ?_) AllReadyH.nil
  go_simp
  refine (C6.out _).mono ?_
  rintro e y25 ⟨rfl, hY25⟩
  have q25 := q22.trans (hY25.mono q22.size)
  have r25 := HS.out _ q25
  go_wp2_with fail
  refine hKQ.out _ _ ?s_25 (fun hHeld25 => ?_)
  case s_25 => exact r25
  clear hKQ KQ
  try simp only [Act.put, List.setIfInBounds_toArray, List.set_cons_zero, List.set_cons_succ]
  refine wpAnyH_take (i := 26) (oi := { dst := some 35, op := Go.Op.binOp Go.BinOp.eql 4 (Go.Operand.tmp 31) (Go.Operand.tmp 34) 4, type := 4, pos := "law.go:20", after := #[{ on := 22, ground := Go.Ground.data }, { on := 25, ground := Go.Ground.data }, { on := 19, ground := Go.Ground.guard }], guard := some (19, true) }) (v := ?v_26_1) rfl (by kernel_rfl) (by kernel_rfl) (by kernel_rfl) (fun _ _ _ h => h) (Or.inl ⟨by rfl, ?y_26_1⟩) (by assumption) ?_
  case y_26_1 => (intro wq hSw; (try dsimp only at hSw); go_simp; first | done | with_reducible rfl)
  try simp only [Act.put, List.setIfInBounds_toArray, List.set_cons_zero, List.set_cons_succ]
  refine wpAnyH_take (i := 27) (oi := { dst := some 36, op := Go.Op.pick (Go.Operand.tmp 28) (Go.Operand.tmp 35) (Go.Operand.const (Go.Value.bool false)), type := 4, pos := "law.go:20", after := #[{ on := 19, ground := Go.Ground.data }, { on := 26, ground := Go.Ground.data }], guard := none }) (v := ?v_27_1) rfl (by kernel_rfl) (by kernel_rfl) (by kernel_rfl) (fun _ _ _ h => h) (Or.inl ⟨by rfl, ?y_27_1⟩) (by assumption) ?_
  case y_27_1 => (intro wq hSw; (try dsimp only at hSw); go_simp; first | done | with_reducible rfl)
  try simp only [Act.put, List.setIfInBounds_toArray, List.set_cons_zero, List.set_cons_succ]
  refine wpAnyH_take (i := 28) (oi := { dst := some 8, op := Go.Op.assign (Go.Operand.tmp 36), type := 4, pos := "law.go:20", after := #[{ on := 27, ground := Go.Ground.data }, { on := 25, ground := Go.Ground.chain }, { on := 0, ground := Go.Ground.phase }, { on := 1, ground := Go.Ground.phase }, { on := 2, ground := Go.Ground.phase }, { on := 3, ground := Go.Ground.phase }, { on := 4, ground := Go.Ground.phase }, { on := 5, ground := Go.Ground.phase }, { on := 6, ground := Go.Ground.phase }, { on := 7, ground := Go.Ground.phase }, { on := 8, ground := Go.Ground.phase }, { on := 9, ground := Go.Ground.phase }, { on := 10, ground := Go.Ground.phase }, { on := 11, ground := Go.Ground.phase }, { on := 12, ground := Go.Ground.phase }, { on := 13, ground := Go.Ground.phase }, { on := 14, ground := Go.Ground.phase }, { on := 15, ground := Go.Ground.phase }, { on := 16, ground := Go.Ground.phase }, { on := 17, ground := Go.Ground.phase }, { on := 18, ground := Go.Ground.phase }, { on := 19, ground := Go.Ground.phase }, { on := 20, ground := Go.Ground.phase }, { on := 21, ground := Go.Ground.phase }, { on := 22, ground := Go.Ground.phase }, { on := 23, ground := Go.Ground.phase }, { on := 24, ground := Go.Ground.phase }, { on := 25, ground := Go.Ground.phase }, { on := 26, ground := Go.Ground.phase }, { on := 27, ground := Go.Ground.phase }], guard := none }) (v := ?v_28_1) rfl (by kernel_rfl) (by kernel_rfl) (by kernel_rfl) (fun _ _ _ h => h) (Or.inl ⟨by rfl, ?y_28_1⟩) (by assumption) ?_
  case y_28_1 => (intro wq hSw; (try dsimp only at hSw); go_simp; first | done | with_reducible rfl)
  try simp only [Act.put, List.setIfInBounds_toArray, List.set_cons_zero, List.set_cons_succ]
  refine wpAnyH_done (by kernel_rfl) ?_ _
  go_wp2_with fail
  go_ret
  exact ⟨by first | rfl | simp, hB0.out.trans ((Below.refl _ _).drew.trans (q25.mono hB0.out.size))⟩
end Go.Proofs.Ytpalhpkbdkodfaa.law6
