/- StampClocks answers true: a clock reads as the document's does, and never goes back. Conditions: what the slice reads as. -/
import Derived.Test.YtpalhpkbdkodfaaStampLaw
import Derived.Test.YtpalhpkbdkodfaaTail
import Derived.Test.YtpalhpkbdkodfaaKitV
import Derived.Deep.RegionHeld3
namespace Go.Proofs.Ytpalhpkbdkodfaa.law6
open Go.RowKit Go.Proofs.Ytpalhpkbdkodfaa.kit Go.Proofs.Ytpalhpkbdkodfaa.nums Go.Proofs.Ytpalhpkbdkodfaa.st Go.Proofs.Ytpalhpkbdkodfaa.ref6 Go.Proofs.Ytpalhpkbdkodfaa.bytes
set_option linter.unusedVariables false

theorem readF_ge (c r : Int) : c ≤ readF c r := by unfold readF; omega
theorem readF_in {c r : Int} (hc : I64 c) (hr : I64 r) : I64 (readF c r) := by unfold I64 readF at *; omega
set_option maxRecDepth 100000 in
set_option maxHeartbeats 2000000 in
theorem clocks_walk (c o : Int) (A : Option Addr) (n cp : Nat) (l : List Int) (t : Int) (w : World) (hc0 : (Lit.int .i64 c).wf = true) (ho0 : (Lit.int .i64 o).wf = true) (hR : RdV w w.heap.size A n (l.map (Value.int .i64))) (hL : ∀ z ∈ l, I64 z) (hnc : n ≤ cp) (hcm : cp ≤ maxLen) (ht0 : (Lit.int .i64 t).wf = true) :
    Calls Try.prog 8 #[.int .i64 c, .int .i64 o, .slice A n cp, .int .i64 t] w fun e w' => e = .returned (.bool true) ∧ Below w.heap.size w w' := by
  have hx1 := hcm
  unfold maxLen at hx1
  have hc := i64_of hc0
  have ho := i64_of ho0
  have ht := i64_of ht0
  clear hc0 ho0 ht0
  go_enter Try.func8, Try.ntmps8
  go_wp2_with fail
  refine (begun_any _).mono ?_
  rintro e w1 ⟨rfl, hB1⟩
  by_cases h1 : 100 < n
  · go_wp2_with fail
    go_ret
    exact ⟨rfl, hB1⟩
  have hR1 := Lib.hid (hR.below hB1)
  have HO := Lib.hid ho
  have HT := Lib.hid ht
  have HL := Lib.hid hL
  clear hR ho ht hL
  go_upto_region 6 with (fail)
  have k0 := blk_one w1 45 [.int .i64 c, .int .i64 o] (.cells #[.int .i64 c, .int .i64 o] 46)
  have k1 := blk_two w1 46 [.int .i64 c, .int .i64 o] (.cells #[.int .i64 c, .int .i64 o] 45)
  have hB0 : Below w1.heap.size w1 ((w1.alloc (.cells #[.int .i64 c, .int .i64 o] 45)).alloc (.cells #[.int .i64 c, .int .i64 o] 46)) := ((Below.refl _ _).alloc (Nat.le_refl _) _).alloc (by simp) _
  generalize ((w1.alloc (.cells #[.int .i64 c, .int .i64 o] 45)).alloc (.cells #[.int .i64 c, .int .i64 o] 46)) = w0 at *
  go_wp2_with fail
  go_loopw [11] (fun i wr => ∃ (j : Nat) (d : Int), j ≤ n + 1 ∧ i = .int .i64 j ∧ I64 d ∧ Blk 45 wr w1.heap.size [.int .i64 d, .int .i64 o] ∧ Blk 46 wr (w1.heap.size + 1) [.int .i64 d, .int .i64 o] ∧ Below w1.heap.size w1 wr) (fun i _ => n + 1 - (intOf i).toNat)
  case atStart => exact ⟨0, c, by omega, rfl, hc, k0, k1, hB0⟩
  case round =>
    clear k0 k1 hB0 hc
    obtain ⟨j, d, hj, rfl, hd, b0, b1, hB⟩ := hrel
    by_cases hjn : j ≤ n
    · have L1 := Lib.hid (fun w => stamp.limit_any d o hd HO.out w)
      have L2 := Lib.hid (fun w => ref6.limit_any d o hd HO.out w)
      have P1 := Lib.hid (fun w => stamp.ripe_any d o t hd HO.out HT.out w)
      generalize limF d o = x at *
      generalize limE d o = ee at *
      have x0 := b0.cell 0
      have x1 := b0.cell 1
      have y0 := b1.cell 0
      have y1 := b1.cell 1
      simp only [List.getElem?_cons_zero, List.getElem?_cons_succ] at x0 x1 y0 y1
      go_wp2_with fail
      refine (L1.out _).mono ?_
      rintro e w2 ⟨rfl, hB2⟩
      have c0 := b0.below hB2 b0.lt
      have c1 := b1.below hB2 b1.lt
      clear x0 x1 y0 y1 b0 b1
      have x0 := c0.cell 0
      have x1 := c0.cell 1
      have y0 := c1.cell 0
      have y1 := c1.cell 1
      simp only [List.getElem?_cons_zero, List.getElem?_cons_succ] at x0 x1 y0 y1
      go_wp2_with fail
      refine (L2.out _).mono ?_
      rintro e w3 ⟨rfl, hB3⟩
      have d0 := c0.below hB3 c0.lt
      have d1 := c1.below hB3 c1.lt
      clear x0 x1 y0 y1 c0 c1 L1 L2
      have hB13 := hB.trans ((hB2.trans (hB3.mono hB2.size)).mono hB.size)
      clear hB2 hB3 hB
      have HS : Hid (∀ wq, Below w3.drew.heap.size w3.drew wq → (wq.cell? ⟨w1.heap.size, 0, none⟩ = some (.int .i64 d) ∧ wq.cell? ⟨w1.heap.size, 1, none⟩ = some (.int .i64 o)) ∧ wq.cell? ⟨w1.heap.size + 1, 0, none⟩ = some (.int .i64 d) ∧ wq.cell? ⟨w1.heap.size + 1, 1, none⟩ = some (.int .i64 o)) := fun wq hq => by
        have n0 := d0.drew.below hq d0.lt
        have n1 := d1.drew.below hq d1.lt
        exact ⟨⟨n0.cell 0, n0.cell 1⟩, n1.cell 0, n1.cell 1⟩
      go_upto_region 11 with (fail)
      refine wp_region_held_drew (S := fun wq => (wq.cell? ⟨w1.heap.size, 0, none⟩ = some (.int .i64 d) ∧ wq.cell? ⟨w1.heap.size, 1, none⟩ = some (.int .i64 o)) ∧ wq.cell? ⟨w1.heap.size + 1, 0, none⟩ = some (.int .i64 d) ∧ wq.cell? ⟨w1.heap.size + 1, 1, none⟩ = some (.int .i64 o)) (by kernel_rfl) ?s_0 (fun hHeld => ?_)
      case s_0 => exact HS.out _ (Below.refl _ _)
      refine wpAnyH_take (i := 0) (oi := { dst := some 44, op := Go.Op.fieldAddr 45 (Go.Operand.tmp 9) 0, type := 0, pos := "law.go:85", after := #[], guard := none }) (v := ?v_0_1) rfl (by kernel_rfl) (by kernel_rfl) (by kernel_rfl) (fun _ _ _ h => h) (Or.inl ⟨by rfl, ?y_0_1⟩) (by assumption) ?_
      case y_0_1 => (intro wq hSw; (try dsimp only at hSw); go_simp; first | done | with_reducible rfl)
      try simp only [Act.put, List.setIfInBounds_toArray, List.set_cons_zero, List.set_cons_succ]
      refine wpAnyH_take (i := 1) (oi := { dst := some 45, op := Go.Op.load 2 (Go.Operand.tmp 44), type := 2, pos := "law.go:85", after := #[{ on := 0, ground := Go.Ground.data }], guard := none }) (v := ?v_1_1) rfl (by kernel_rfl) (by kernel_rfl) (by kernel_rfl) (fun _ _ _ h => h) (Or.inl ⟨by rfl, ?y_1_1⟩) (by assumption) ?_
      case y_1_1 => (intro wq hSw; (try dsimp only at hSw); go_simp; first | done | with_reducible rfl)
      try simp only [Act.put, List.setIfInBounds_toArray, List.set_cons_zero, List.set_cons_succ]
      refine wpAnyH_take (i := 2) (oi := { dst := some 46, op := Go.Op.fieldAddr 46 (Go.Operand.tmp 10) 0, type := 0, pos := "law.go:85", after := #[], guard := none }) (v := ?v_2_1) rfl (by kernel_rfl) (by kernel_rfl) (by kernel_rfl) (fun _ _ _ h => h) (Or.inl ⟨by rfl, ?y_2_1⟩) (by assumption) ?_
      case y_2_1 => (intro wq hSw; (try dsimp only at hSw); go_simp; first | done | with_reducible rfl)
      try simp only [Act.put, List.setIfInBounds_toArray, List.set_cons_zero, List.set_cons_succ]
      refine wpAnyH_take (i := 3) (oi := { dst := some 47, op := Go.Op.load 2 (Go.Operand.tmp 46), type := 2, pos := "law.go:85", after := #[{ on := 2, ground := Go.Ground.data }], guard := none }) (v := ?v_3_1) rfl (by kernel_rfl) (by kernel_rfl) (by kernel_rfl) (fun _ _ _ h => h) (Or.inl ⟨by rfl, ?y_3_1⟩) (by assumption) ?_
      case y_3_1 => (intro wq hSw; (try dsimp only at hSw); go_simp; first | done | with_reducible rfl)
      try simp only [Act.put, List.setIfInBounds_toArray, List.set_cons_zero, List.set_cons_succ]
      refine wpAnyH_take (i := 4) (oi := { dst := some 48, op := Go.Op.binOp Go.BinOp.neq 2 (Go.Operand.tmp 45) (Go.Operand.tmp 47) 2, type := 4, pos := "law.go:85", after := #[{ on := 1, ground := Go.Ground.data }, { on := 3, ground := Go.Ground.data }], guard := none }) (v := ?v_4_1) rfl (by kernel_rfl) (by kernel_rfl) (by kernel_rfl) (fun _ _ _ h => h) (Or.inl ⟨by rfl, ?y_4_1⟩) (by assumption) ?_
      case y_4_1 => (intro wq hSw; (try dsimp only at hSw); go_simp; first | done | with_reducible rfl)
      try simp only [Act.put, List.setIfInBounds_toArray, List.set_cons_zero, List.set_cons_succ]
      refine wpAnyH_take (i := 5) (oi := { dst := some 49, op := Go.Op.move (Go.Operand.tmp 48), type := 4, pos := "law.go:85", after := #[{ on := 4, ground := Go.Ground.data }], guard := none }) (v := ?v_5_1) rfl (by kernel_rfl) (by kernel_rfl) (by kernel_rfl) (fun _ _ _ h => h) (Or.inl ⟨by rfl, ?y_5_1⟩) (by assumption) ?_
      case y_5_1 => (intro wq hSw; (try dsimp only at hSw); go_simp; first | done | with_reducible rfl)
      try simp only [Act.put, List.setIfInBounds_toArray, List.set_cons_zero, List.set_cons_succ]
      refine wpAnyH_take (i := 6) (oi := { dst := some 50, op := Go.Op.fieldAddr 45 (Go.Operand.tmp 9) 1, type := 0, pos := "law.go:85", after := #[{ on := 5, ground := Go.Ground.guard }], guard := some (5, false) }) (v := ?v_6_1) rfl (by kernel_rfl) (by kernel_rfl) (by kernel_rfl) (fun _ _ _ h => h) (Or.inl ⟨by rfl, ?y_6_1⟩) (by assumption) ?_
      case y_6_1 => (intro wq hSw; (try dsimp only at hSw); go_simp; first | done | with_reducible rfl)
      try simp only [Act.put, List.setIfInBounds_toArray, List.set_cons_zero, List.set_cons_succ]
      refine wpAnyH_take (i := 7) (oi := { dst := some 51, op := Go.Op.load 2 (Go.Operand.tmp 50), type := 2, pos := "law.go:85", after := #[{ on := 6, ground := Go.Ground.data }, { on := 5, ground := Go.Ground.guard }], guard := some (5, false) }) (v := ?v_7_1) rfl (by kernel_rfl) (by kernel_rfl) (by kernel_rfl) (fun _ _ _ h => h) (Or.inl ⟨by rfl, ?y_7_1⟩) (by assumption) ?_
      case y_7_1 => (intro wq hSw; (try dsimp only at hSw); go_simp; first | done | with_reducible rfl)
      try simp only [Act.put, List.setIfInBounds_toArray, List.set_cons_zero, List.set_cons_succ]
      refine wpAnyH_take (i := 8) (oi := { dst := some 52, op := Go.Op.fieldAddr 46 (Go.Operand.tmp 10) 1, type := 0, pos := "law.go:85", after := #[{ on := 5, ground := Go.Ground.guard }], guard := some (5, false) }) (v := ?v_8_1) rfl (by kernel_rfl) (by kernel_rfl) (by kernel_rfl) (fun _ _ _ h => h) (Or.inl ⟨by rfl, ?y_8_1⟩) (by assumption) ?_
      case y_8_1 => (intro wq hSw; (try dsimp only at hSw); go_simp; first | done | with_reducible rfl)
      try simp only [Act.put, List.setIfInBounds_toArray, List.set_cons_zero, List.set_cons_succ]
      refine wpAnyH_take (i := 9) (oi := { dst := some 53, op := Go.Op.load 2 (Go.Operand.tmp 52), type := 2, pos := "law.go:85", after := #[{ on := 8, ground := Go.Ground.data }, { on := 5, ground := Go.Ground.guard }], guard := some (5, false) }) (v := ?v_9_1) rfl (by kernel_rfl) (by kernel_rfl) (by kernel_rfl) (fun _ _ _ h => h) (Or.inl ⟨by rfl, ?y_9_1⟩) (by assumption) ?_
      case y_9_1 => (intro wq hSw; (try dsimp only at hSw); go_simp; first | done | with_reducible rfl)
      try simp only [Act.put, List.setIfInBounds_toArray, List.set_cons_zero, List.set_cons_succ]
      refine wpAnyH_take (i := 10) (oi := { dst := some 54, op := Go.Op.binOp Go.BinOp.neq 2 (Go.Operand.tmp 51) (Go.Operand.tmp 53) 2, type := 4, pos := "law.go:85", after := #[{ on := 7, ground := Go.Ground.data }, { on := 9, ground := Go.Ground.data }, { on := 5, ground := Go.Ground.guard }], guard := some (5, false) }) (v := ?v_10_1) rfl (by kernel_rfl) (by kernel_rfl) (by kernel_rfl) (fun _ _ _ h => h) (Or.inl ⟨by rfl, ?y_10_1⟩) (by assumption) ?_
      case y_10_1 => (intro wq hSw; (try dsimp only at hSw); go_simp; first | done | with_reducible rfl)
      try simp only [Act.put, List.setIfInBounds_toArray, List.set_cons_zero, List.set_cons_succ]
      refine wpAnyH_take (i := 11) (oi := { dst := some 55, op := Go.Op.pick (Go.Operand.tmp 49) (Go.Operand.const (Go.Value.bool true)) (Go.Operand.tmp 54), type := 4, pos := "law.go:85", after := #[{ on := 5, ground := Go.Ground.data }, { on := 10, ground := Go.Ground.data }], guard := none }) (v := ?v_11_1) rfl (by kernel_rfl) (by kernel_rfl) (by kernel_rfl) (fun _ _ _ h => h) (Or.inl ⟨by rfl, ?y_11_1⟩) (by assumption) ?_
      case y_11_1 => (intro wq hSw; (try dsimp only at hSw); go_simp; first | done | with_reducible rfl)
      try simp only [Act.put, List.setIfInBounds_toArray, List.set_cons_zero, List.set_cons_succ]
      refine wpAnyH_take (i := 12) (oi := { dst := some 56, op := Go.Op.move (Go.Operand.tmp 55), type := 4, pos := "law.go:85", after := #[{ on := 11, ground := Go.Ground.data }, { on := 5, ground := Go.Ground.chain }], guard := none }) (v := ?v_12_1) rfl (by kernel_rfl) (by kernel_rfl) (by kernel_rfl) (fun _ _ _ h => h) (Or.inl ⟨by rfl, ?y_12_1⟩) (by assumption) ?_
      case y_12_1 => (intro wq hSw; (try dsimp only at hSw); go_simp; first | done | with_reducible rfl)
      try simp only [Act.put, List.setIfInBounds_toArray, List.set_cons_zero, List.set_cons_succ]
      refine wpAnyH_take (i := 13) (oi := { dst := some 57, op := Go.Op.move (Go.Operand.tmp 12), type := 2, pos := "law.go:85", after := #[{ on := 12, ground := Go.Ground.guard }], guard := some (12, false) }) (v := ?v_13_1) rfl (by kernel_rfl) (by kernel_rfl) (by kernel_rfl) (fun _ _ _ h => h) (Or.inl ⟨by rfl, ?y_13_1⟩) (by assumption) ?_
      case y_13_1 => (intro wq hSw; (try dsimp only at hSw); go_simp; first | done | with_reducible rfl)
      try simp only [Act.put, List.setIfInBounds_toArray, List.set_cons_zero, List.set_cons_succ]
      refine wpAnyH_take (i := 14) (oi := { dst := some 58, op := Go.Op.move (Go.Operand.tmp 14), type := 2, pos := "law.go:85", after := #[{ on := 12, ground := Go.Ground.guard }], guard := some (12, false) }) (v := ?v_14_1) rfl (by kernel_rfl) (by kernel_rfl) (by kernel_rfl) (fun _ _ _ h => h) (Or.inl ⟨by rfl, ?y_14_1⟩) (by assumption) ?_
      case y_14_1 => (intro wq hSw; (try dsimp only at hSw); go_simp; first | done | with_reducible rfl)
      try simp only [Act.put, List.setIfInBounds_toArray, List.set_cons_zero, List.set_cons_succ]
      refine wpAnyH_take (i := 15) (oi := { dst := some 59, op := Go.Op.binOp Go.BinOp.neq 2 (Go.Operand.tmp 57) (Go.Operand.tmp 58) 2, type := 4, pos := "law.go:85", after := #[{ on := 13, ground := Go.Ground.data }, { on := 14, ground := Go.Ground.data }, { on := 12, ground := Go.Ground.guard }], guard := some (12, false) }) (v := ?v_15_1) rfl (by kernel_rfl) (by kernel_rfl) (by kernel_rfl) (fun _ _ _ h => h) (Or.inl ⟨by rfl, ?y_15_1⟩) (by assumption) ?_
      case y_15_1 => (intro wq hSw; (try dsimp only at hSw); go_simp; first | done | with_reducible rfl)
      try simp only [Act.put, List.setIfInBounds_toArray, List.set_cons_zero, List.set_cons_succ]
      refine wpAnyH_take (i := 16) (oi := { dst := some 60, op := Go.Op.pick (Go.Operand.tmp 56) (Go.Operand.const (Go.Value.bool true)) (Go.Operand.tmp 59), type := 4, pos := "law.go:85", after := #[{ on := 12, ground := Go.Ground.data }, { on := 15, ground := Go.Ground.data }], guard := none }) (v := ?v_16_1) rfl (by kernel_rfl) (by kernel_rfl) (by kernel_rfl) (fun _ _ _ h => h) (Or.inl ⟨by rfl, ?y_16_1⟩) (by assumption) ?_
      case y_16_1 => (intro wq hSw; (try dsimp only at hSw); go_simp; first | done | with_reducible rfl)
      try simp only [Act.put, List.setIfInBounds_toArray, List.set_cons_zero, List.set_cons_succ]
      refine wpAnyH_take (i := 17) (oi := { dst := some 61, op := Go.Op.move (Go.Operand.tmp 60), type := 4, pos := "law.go:85", after := #[{ on := 16, ground := Go.Ground.data }, { on := 12, ground := Go.Ground.chain }], guard := none }) (v := ?v_17_1) rfl (by kernel_rfl) (by kernel_rfl) (by kernel_rfl) (fun _ _ _ h => h) (Or.inl ⟨by rfl, ?y_17_1⟩) (by assumption) ?_
      case y_17_1 => (intro wq hSw; (try dsimp only at hSw); go_simp; first | done | with_reducible rfl)
      try simp only [Act.put, List.setIfInBounds_toArray, List.set_cons_zero, List.set_cons_succ]
      refine wpAnyH_take (i := 18) (oi := { dst := some 62, op := Go.Op.move (Go.Operand.tmp 13), type := 34, pos := "law.go:85", after := #[{ on := 17, ground := Go.Ground.guard }], guard := some (17, false) }) (v := ?v_18_1) rfl (by kernel_rfl) (by kernel_rfl) (by kernel_rfl) (fun _ _ _ h => h) (Or.inl ⟨by rfl, ?y_18_1⟩) (by assumption) ?_
      case y_18_1 => (intro wq hSw; (try dsimp only at hSw); go_simp; first | done | with_reducible rfl)
      try simp only [Act.put, List.setIfInBounds_toArray, List.set_cons_zero, List.set_cons_succ]
      refine wpAnyH_take (i := 19) (oi := { dst := some 63, op := Go.Op.move (Go.Operand.tmp 15), type := 34, pos := "law.go:85", after := #[{ on := 17, ground := Go.Ground.guard }], guard := some (17, false) }) (v := ?v_19_1) rfl (by kernel_rfl) (by kernel_rfl) (by kernel_rfl) (fun _ _ _ h => h) (Or.inl ⟨by rfl, ?y_19_1⟩) (by assumption) ?_
      case y_19_1 => (intro wq hSw; (try dsimp only at hSw); go_simp; first | done | with_reducible rfl)
      try simp only [Act.put, List.setIfInBounds_toArray, List.set_cons_zero, List.set_cons_succ]
      refine wpAnyH_take (i := 20) (oi := { dst := some 64, op := Go.Op.binOp Go.BinOp.neq 34 (Go.Operand.tmp 62) (Go.Operand.tmp 63) 34, type := 4, pos := "law.go:85", after := #[{ on := 18, ground := Go.Ground.data }, { on := 19, ground := Go.Ground.data }, { on := 17, ground := Go.Ground.guard }], guard := some (17, false) }) (v := ?v_20_1) rfl (by kernel_rfl) (by kernel_rfl) (by kernel_rfl) (fun _ _ _ h => h) (Or.inl ⟨by rfl, ?y_20_1⟩) (by assumption) ?_
      case y_20_1 => (intro wq hSw; (try dsimp only at hSw); go_simp; first | done | with_reducible rfl)
      try simp only [Act.put, List.setIfInBounds_toArray, List.set_cons_zero, List.set_cons_succ]
      refine wpAnyH_take (i := 21) (oi := { dst := some 65, op := Go.Op.pick (Go.Operand.tmp 61) (Go.Operand.const (Go.Value.bool true)) (Go.Operand.tmp 64), type := 4, pos := "law.go:85", after := #[{ on := 17, ground := Go.Ground.data }, { on := 20, ground := Go.Ground.data }], guard := none }) (v := ?v_21_1) rfl (by kernel_rfl) (by kernel_rfl) (by kernel_rfl) (fun _ _ _ h => h) (Or.inl ⟨by rfl, ?y_21_1⟩) (by assumption) ?_
      case y_21_1 => (intro wq hSw; (try dsimp only at hSw); go_simp; first | done | with_reducible rfl)
      try simp only [Act.put, List.setIfInBounds_toArray, List.set_cons_zero, List.set_cons_succ]
      refine wpAnyH_take (i := 22) (oi := { dst := some 66, op := Go.Op.move (Go.Operand.tmp 65), type := 4, pos := "law.go:85", after := #[{ on := 21, ground := Go.Ground.data }, { on := 17, ground := Go.Ground.chain }], guard := none }) (v := ?v_22_1) rfl (by kernel_rfl) (by kernel_rfl) (by kernel_rfl) (fun _ _ _ h => h) (Or.inl ⟨by rfl, ?y_22_1⟩) (by assumption) ?_
      case y_22_1 => (intro wq hSw; (try dsimp only at hSw); go_simp; first | done | with_reducible rfl)
      try simp only [Act.put, List.setIfInBounds_toArray, List.set_cons_zero, List.set_cons_succ]
      refine wpAnyH_take (i := 23) (oi := { dst := some 67, op := Go.Op.load 45 (Go.Operand.tmp 9), type := 45, pos := "law.go:85", after := #[{ on := 22, ground := Go.Ground.guard }], guard := some (22, false) }) (v := ?v_23_1) rfl (by kernel_rfl) (by kernel_rfl) (by kernel_rfl) (fun _ _ _ h => h) (Or.inl ⟨by rfl, ?y_23_1⟩) (by assumption) ?_
      case y_23_1 => (intro wq hSw; (try dsimp only at hSw); go_simp; first | done | with_reducible rfl)
      try simp only [Act.put, List.setIfInBounds_toArray, List.set_cons_zero, List.set_cons_succ]
      refine wpAnyH_take (i := 24) (oi := { dst := some 68, op := Go.Op.move (Go.Operand.tmp 3), type := 2, pos := "law.go:85", after := #[{ on := 22, ground := Go.Ground.guard }], guard := some (22, false) }) (v := ?v_24_1) rfl (by kernel_rfl) (by kernel_rfl) (by kernel_rfl) (fun _ _ _ h => h) (Or.inl ⟨by rfl, ?y_24_1⟩) (by assumption) ?_
      case y_24_1 => (intro wq hSw; (try dsimp only at hSw); go_simp; first | done | with_reducible rfl)
      try simp only [Act.put, List.setIfInBounds_toArray, List.set_cons_zero, List.set_cons_succ]
      refine wpAnyH_take (i := 26) (oi := { dst := some 70, op := Go.Op.fieldAddr 45 (Go.Operand.tmp 9) 0, type := 0, pos := "law.go:85", after := #[{ on := 22, ground := Go.Ground.guard }], guard := some (22, false) }) (v := ?v_26_1) rfl (by kernel_rfl) (by kernel_rfl) (by kernel_rfl) (fun _ _ _ h => h) (Or.inl ⟨by rfl, ?y_26_1⟩) (by assumption) ?_
      case y_26_1 => (intro wq hSw; (try dsimp only at hSw); go_simp; first | done | with_reducible rfl)
      try simp only [Act.put, List.setIfInBounds_toArray, List.set_cons_zero, List.set_cons_succ]
      refine wpAnyH_take (i := 27) (oi := { dst := some 71, op := Go.Op.load 2 (Go.Operand.tmp 70), type := 2, pos := "law.go:85", after := #[{ on := 26, ground := Go.Ground.data }, { on := 22, ground := Go.Ground.guard }], guard := some (22, false) }) (v := ?v_27_1) rfl (by kernel_rfl) (by kernel_rfl) (by kernel_rfl) (fun _ _ _ h => h) (Or.inl ⟨by rfl, ?y_27_1⟩) (by assumption) ?_
      case y_27_1 => (intro wq hSw; (try dsimp only at hSw); go_simp; first | done | with_reducible rfl)
      try simp only [Act.put, List.setIfInBounds_toArray, List.set_cons_zero, List.set_cons_succ]
      refine wpAnyH_take (i := 28) (oi := { dst := some 72, op := Go.Op.move (Go.Operand.tmp 3), type := 2, pos := "law.go:85", after := #[{ on := 22, ground := Go.Ground.guard }], guard := some (22, false) }) (v := ?v_28_1) rfl (by kernel_rfl) (by kernel_rfl) (by kernel_rfl) (fun _ _ _ h => h) (Or.inl ⟨by rfl, ?y_28_1⟩) (by assumption) ?_
      case y_28_1 => (intro wq hSw; (try dsimp only at hSw); go_simp; first | done | with_reducible rfl)
      try simp only [Act.put, List.setIfInBounds_toArray, List.set_cons_zero, List.set_cons_succ]
      refine wpAnyH_take (i := 29) (oi := { dst := some 73, op := Go.Op.binOp Go.BinOp.geq 2 (Go.Operand.tmp 71) (Go.Operand.tmp 72) 2, type := 4, pos := "law.go:85", after := #[{ on := 27, ground := Go.Ground.data }, { on := 28, ground := Go.Ground.data }, { on := 22, ground := Go.Ground.guard }], guard := some (22, false) }) (v := ?v_29_1) rfl (by kernel_rfl) (by kernel_rfl) (by kernel_rfl) (fun _ _ _ h => h) (Or.inl ⟨by rfl, ?y_29_1⟩) (by assumption) ?_
      case y_29_1 => (intro wq hSw; (try dsimp only at hSw); go_simp; first | done | with_reducible rfl)
      try simp only [Act.put, List.setIfInBounds_toArray, List.set_cons_zero, List.set_cons_succ]
      refine wpAnyH_ready (rs := [25]) (by kernel_rfl) (by simp) ?_
      refine AllReadyH.cons (o := { dst := some 69, op := Go.Op.call { callee := Go.Callee.value (Go.Operand.func 27), args := #[Go.Operand.tmp 67, Go.Operand.tmp 68], argTypes := #[45, 2] }, type := 4, pos := "law.go:85", after := #[{ on := 23, ground := Go.Ground.data }, { on := 24, ground := Go.Ground.data }, { on := 22, ground := Go.Ground.chain }, { on := 22, ground := Go.Ground.guard }], guard := some (22, false) }) rfl (fun KQ hKQ => ?_) AllReadyH.nil
      go_simp
      refine (P1.out _).mono ?_
      rintro e y1 ⟨rfl, hY1⟩
      have hHy := HS.out _ hY1
      go_wp2_with fail
      refine hKQ.out _ _ ?s_25 (fun hHeld25 => ?_)
      case s_25 => exact hHy
      clear hKQ KQ
      try simp only [Act.put, List.setIfInBounds_toArray, List.set_cons_zero, List.set_cons_succ]
      refine wpAnyH_take (i := 30) (oi := { dst := some 74, op := Go.Op.binOp Go.BinOp.neq 4 (Go.Operand.tmp 69) (Go.Operand.tmp 73) 4, type := 4, pos := "law.go:85", after := #[{ on := 25, ground := Go.Ground.data }, { on := 29, ground := Go.Ground.data }, { on := 22, ground := Go.Ground.guard }], guard := some (22, false) }) (v := ?v_30_1) rfl (by kernel_rfl) (by kernel_rfl) (by kernel_rfl) (fun _ _ _ h => h) (Or.inl ⟨by rfl, ?y_30_1⟩) (by assumption) ?_
      case y_30_1 => (intro wq hSw; (try dsimp only at hSw); go_simp; first | done | with_reducible rfl)
      try simp only [Act.put, List.setIfInBounds_toArray, List.set_cons_zero, List.set_cons_succ]
      refine wpAnyH_take (i := 31) (oi := { dst := some 75, op := Go.Op.pick (Go.Operand.tmp 66) (Go.Operand.const (Go.Value.bool true)) (Go.Operand.tmp 74), type := 4, pos := "law.go:85", after := #[{ on := 22, ground := Go.Ground.data }, { on := 30, ground := Go.Ground.data }], guard := none }) (v := ?v_31_1) rfl (by kernel_rfl) (by kernel_rfl) (by kernel_rfl) (fun _ _ _ h => h) (Or.inl ⟨by rfl, ?y_31_1⟩) (by assumption) ?_
      case y_31_1 => (intro wq hSw; (try dsimp only at hSw); go_simp; first | done | with_reducible rfl)
      try simp only [Act.put, List.setIfInBounds_toArray, List.set_cons_zero, List.set_cons_succ]
      refine wpAnyH_done (by kernel_rfl) ?_ _
      clear HS hHeld
      have k0 := d0.drew.below hY1 d0.lt
      have k1 := d1.drew.below hY1 d1.lt
      have hB14 := hB13.drew.trans (hY1.mono hB13.size)
      clear d0 d1 hB13 hY1 hHy
      by_cases hlt : j < n
      · obtain ⟨hln, hcell⟩ := hR1.out
        obtain ⟨b, q, rfl, hbB, hcell⟩ := hcell (by omega)
        obtain ⟨r, hr⟩ : ∃ r, l.getD j 0 = r := ⟨_, rfl⟩
        rw [List.length_map] at hln
        have hlj : l[j]? = some r := by
          rw [List.getElem?_eq_getElem (by omega)]
          rw [List.getD_eq_getElem?_getD, List.getElem?_eq_getElem (by omega)] at hr
          exact congrArg some hr
        have hrI : I64 r := HL.out r (List.mem_of_getElem? hlj)
        have hcj : w1.cell? ⟨b, q + j, none⟩ = some (.int .i64 r) := by rw [hcell j hlt, List.getElem?_map, hlj]; rfl
        have hs1 := hB1.size
        have HS : Hid (∀ wq, Below y1.drew.heap.size y1.drew wq → ((wq.cell? ⟨w1.heap.size, 0, none⟩ = some (.int .i64 d) ∧ wq.cell? ⟨w1.heap.size, 1, none⟩ = some (.int .i64 o)) ∧ wq.cell? ⟨w1.heap.size + 1, 0, none⟩ = some (.int .i64 d) ∧ wq.cell? ⟨w1.heap.size + 1, 1, none⟩ = some (.int .i64 o)) ∧ wq.cell? ⟨b, q + j, none⟩ = some (.int .i64 r)) := fun wq hq => by
          have n0 := k0.drew.below hq k0.lt
          have n1 := k1.drew.below hq k1.lt
          have hcq : wq.cell? ⟨b, q + j, none⟩ = w1.cell? ⟨b, q + j, none⟩ := (hB14.drew.trans (hq.mono hB14.size)).cell (p := ⟨b, q + j, none⟩) (show b < w1.heap.size by omega)
          exact ⟨⟨⟨n0.cell 0, n0.cell 1⟩, n1.cell 0, n1.cell 1⟩, hcq.trans hcj⟩
        have R1 := Lib.hid (fun w => stamp.read_any d o r hd HO.out hrI w)
        have R2 := Lib.hid (fun w => ref6.read_any d o r w)
        have hge := readF_ge d r
        have hin := Lib.hid (readF_in hd hrI)
        generalize readF d r = d' at *
        have i0 : (0 : Int) ≤ j ∧ (j : Int) < n := by omega
        have x0 := k0.cell 0
        simp only [List.getElem?_cons_zero] at x0
        clear hcell hln hr hlj
        go_upto_region 15 with (fail)
        clear x0
        have k0 := k0.drew
        have k1 := k1.drew
        refine tail.region (S := fun wq => ((wq.cell? ⟨w1.heap.size, 0, none⟩ = some (.int .i64 d) ∧ wq.cell? ⟨w1.heap.size, 1, none⟩ = some (.int .i64 o)) ∧ wq.cell? ⟨w1.heap.size + 1, 0, none⟩ = some (.int .i64 d) ∧ wq.cell? ⟨w1.heap.size + 1, 1, none⟩ = some (.int .i64 o)) ∧ wq.cell? ⟨b, q + j, none⟩ = some (.int .i64 r)) [12, 13] (by kernel_rfl) (HS.out _ (Below.refl _ _)) (fun hHeld => ?_)
        refine tail.take (i := 0) (oi := { dst := some 82, op := Go.Op.load 45 (Go.Operand.tmp 9), type := 45, pos := "law.go:90", after := #[], guard := none }) (v := ?v_0_2) rfl (by kernel_rfl) (by kernel_rfl) (by kernel_rfl) (fun _ _ _ h => h) (Or.inl ⟨by rfl, ?y_0_2⟩) (by assumption) (by kernel_rfl) (by kernel_rfl) ?_
        case y_0_2 => (intro wq hSw; (try dsimp only at hSw); go_simp; first | done | with_reducible rfl)
        try simp only [Act.put, List.setIfInBounds_toArray, List.set_cons_zero, List.set_cons_succ]
        refine tail.take (i := 1) (oi := { dst := some 83, op := Go.Op.move (Go.Operand.tmp 2), type := 43, pos := "law.go:90", after := #[], guard := none }) (v := ?v_1_2) rfl (by kernel_rfl) (by kernel_rfl) (by kernel_rfl) (fun _ _ _ h => h) (Or.inl ⟨by rfl, ?y_1_2⟩) (by assumption) (by kernel_rfl) (by kernel_rfl) ?_
        case y_1_2 => (intro wq hSw; (try dsimp only at hSw); go_simp; first | done | with_reducible rfl)
        try simp only [Act.put, List.setIfInBounds_toArray, List.set_cons_zero, List.set_cons_succ]
        refine tail.take (i := 2) (oi := { dst := some 84, op := Go.Op.move (Go.Operand.tmp 11), type := 3, pos := "law.go:90", after := #[], guard := none }) (v := ?v_2_2) rfl (by kernel_rfl) (by kernel_rfl) (by kernel_rfl) (fun _ _ _ h => h) (Or.inl ⟨by rfl, ?y_2_2⟩) (by assumption) (by kernel_rfl) (by kernel_rfl) ?_
        case y_2_2 => (intro wq hSw; (try dsimp only at hSw); go_simp; first | done | with_reducible rfl)
        try simp only [Act.put, List.setIfInBounds_toArray, List.set_cons_zero, List.set_cons_succ]
        refine tail.take (i := 3) (oi := { dst := some 85, op := Go.Op.indexAddr 43 (Go.Operand.tmp 83) (Go.Operand.tmp 84), type := 0, pos := "law.go:90", after := #[{ on := 1, ground := Go.Ground.data }, { on := 2, ground := Go.Ground.data }], guard := none }) (v := ?v_3_2) rfl (by kernel_rfl) (by kernel_rfl) (by kernel_rfl) (fun _ _ _ h => h) (Or.inl ⟨by rfl, ?y_3_2⟩) (by assumption) (by kernel_rfl) (by kernel_rfl) ?_
        case y_3_2 => (intro wq hSw; (try dsimp only at hSw); go_simp; first | done | with_reducible rfl)
        try simp only [Act.put, List.setIfInBounds_toArray, List.set_cons_zero, List.set_cons_succ]
        refine tail.take (i := 4) (oi := { dst := some 86, op := Go.Op.load 2 (Go.Operand.tmp 85), type := 2, pos := "law.go:90", after := #[{ on := 3, ground := Go.Ground.data }], guard := none }) (v := ?v_4_2) rfl (by kernel_rfl) (by kernel_rfl) (by kernel_rfl) (fun _ _ _ h => h) (Or.inl ⟨by rfl, ?y_4_2⟩) (by assumption) (by kernel_rfl) (by kernel_rfl) ?_
        case y_4_2 => (intro wq hSw; (try dsimp only at hSw); go_simp; first | done | with_reducible rfl)
        try simp only [Act.put, List.setIfInBounds_toArray, List.set_cons_zero, List.set_cons_succ]
        refine tail.take (i := 6) (oi := { dst := some 88, op := Go.Op.load 46 (Go.Operand.tmp 10), type := 46, pos := "law.go:90", after := #[], guard := none }) (v := ?v_6_2) rfl (by kernel_rfl) (by kernel_rfl) (by kernel_rfl) (fun _ _ _ h => h) (Or.inl ⟨by rfl, ?y_6_2⟩) (by assumption) (by kernel_rfl) (by kernel_rfl) ?_
        case y_6_2 => (intro wq hSw; (try dsimp only at hSw); go_simp; first | done | with_reducible rfl)
        try simp only [Act.put, List.setIfInBounds_toArray, List.set_cons_zero, List.set_cons_succ]
        refine tail.take (i := 7) (oi := { dst := some 89, op := Go.Op.move (Go.Operand.tmp 2), type := 43, pos := "law.go:90", after := #[], guard := none }) (v := ?v_7_2) rfl (by kernel_rfl) (by kernel_rfl) (by kernel_rfl) (fun _ _ _ h => h) (Or.inl ⟨by rfl, ?y_7_2⟩) (by assumption) (by kernel_rfl) (by kernel_rfl) ?_
        case y_7_2 => (intro wq hSw; (try dsimp only at hSw); go_simp; first | done | with_reducible rfl)
        try simp only [Act.put, List.setIfInBounds_toArray, List.set_cons_zero, List.set_cons_succ]
        refine tail.take (i := 8) (oi := { dst := some 90, op := Go.Op.move (Go.Operand.tmp 11), type := 3, pos := "law.go:90", after := #[], guard := none }) (v := ?v_8_2) rfl (by kernel_rfl) (by kernel_rfl) (by kernel_rfl) (fun _ _ _ h => h) (Or.inl ⟨by rfl, ?y_8_2⟩) (by assumption) (by kernel_rfl) (by kernel_rfl) ?_
        case y_8_2 => (intro wq hSw; (try dsimp only at hSw); go_simp; first | done | with_reducible rfl)
        try simp only [Act.put, List.setIfInBounds_toArray, List.set_cons_zero, List.set_cons_succ]
        refine tail.take (i := 9) (oi := { dst := some 91, op := Go.Op.indexAddr 43 (Go.Operand.tmp 89) (Go.Operand.tmp 90), type := 0, pos := "law.go:90", after := #[{ on := 7, ground := Go.Ground.data }, { on := 8, ground := Go.Ground.data }], guard := none }) (v := ?v_9_2) rfl (by kernel_rfl) (by kernel_rfl) (by kernel_rfl) (fun _ _ _ h => h) (Or.inl ⟨by rfl, ?y_9_2⟩) (by assumption) (by kernel_rfl) (by kernel_rfl) ?_
        case y_9_2 => (intro wq hSw; (try dsimp only at hSw); go_simp; first | done | with_reducible rfl)
        try simp only [Act.put, List.setIfInBounds_toArray, List.set_cons_zero, List.set_cons_succ]
        refine tail.take (i := 10) (oi := { dst := some 92, op := Go.Op.load 2 (Go.Operand.tmp 91), type := 2, pos := "law.go:90", after := #[{ on := 9, ground := Go.Ground.data }], guard := none }) (v := ?v_10_2) rfl (by kernel_rfl) (by kernel_rfl) (by kernel_rfl) (fun _ _ _ h => h) (Or.inl ⟨by rfl, ?y_10_2⟩) (by assumption) (by kernel_rfl) (by kernel_rfl) ?_
        case y_10_2 => (intro wq hSw; (try dsimp only at hSw); go_simp; first | done | with_reducible rfl)
        try simp only [Act.put, List.setIfInBounds_toArray, List.set_cons_zero, List.set_cons_succ]
        refine tail.next (i := 5) (o := { dst := some 87, op := Go.Op.call { callee := Go.Callee.value (Go.Operand.func 28), args := #[Go.Operand.tmp 82, Go.Operand.tmp 86], argTypes := #[45, 2] }, type := 45, pos := "law.go:90", after := #[{ on := 0, ground := Go.Ground.data }, { on := 4, ground := Go.Ground.data }], guard := none }) rfl (by kernel_rfl) (fun KQ hKQ => ?_)
        go_simp
        refine (R1.out _).mono ?_
        rintro e y1 ⟨rfl, hY1⟩
        have hHy := HS.out _ hY1
        go_wp2_with fail
        refine hKQ.out _ _ ?s_5 ?_
        case s_5 => exact .inr hHy
        clear hKQ KQ
        try simp only [Act.put, List.setIfInBounds_toArray, List.set_cons_zero, List.set_cons_succ]
        refine tail.next (i := 11) (o := { dst := some 93, op := Go.Op.call { callee := Go.Callee.value (Go.Operand.func 29), args := #[Go.Operand.tmp 88, Go.Operand.tmp 92], argTypes := #[46, 2] }, type := 46, pos := "law.go:90", after := #[{ on := 6, ground := Go.Ground.data }, { on := 10, ground := Go.Ground.data }, { on := 5, ground := Go.Ground.chain }], guard := none }) rfl (by kernel_rfl) (fun KQ hKQ => ?_)
        go_simp
        refine (R2.out _).mono ?_
        rintro e y2 ⟨rfl, hY2⟩
        have hY12 := hY1.trans (hY2.mono hY1.size)
        have hHz := HS.out _ hY12
        have n0 := k0.below hY12 k0.lt
        have n1 := k1.below hY12 k1.lt
        have f0 := fun i => n0.frozen i
        have f1 := fun i => n1.frozen i
        have z0 := n0.cell 0
        have z1 := n0.cell 1
        have u0 := n1.cell 0
        have u1 := n1.cell 1
        simp only [List.getElem?_cons_zero, List.getElem?_cons_succ] at z0 z1 u0 u1
        go_wp2_with fail
        refine hKQ.out _ _ ?s_11 ?_
        case s_11 => exact .inr hHz
        clear hKQ KQ
        try simp only [Act.put, List.setIfInBounds_toArray, List.set_cons_zero, List.set_cons_succ]
        refine tail.next (i := 12) (o := { dst := none, op := Go.Op.store 45 (Go.Operand.tmp 9) (Go.Operand.tmp 87), type := 0, pos := "law.go:90", after := #[{ on := 5, ground := Go.Ground.data }, { on := 11, ground := Go.Ground.chain }, { on := 0, ground := Go.Ground.phase }, { on := 1, ground := Go.Ground.phase }, { on := 2, ground := Go.Ground.phase }, { on := 3, ground := Go.Ground.phase }, { on := 4, ground := Go.Ground.phase }, { on := 5, ground := Go.Ground.phase }, { on := 6, ground := Go.Ground.textOnly Go.Departure.lateStores }, { on := 7, ground := Go.Ground.textOnly Go.Departure.lateStores }, { on := 8, ground := Go.Ground.textOnly Go.Departure.lateStores }, { on := 9, ground := Go.Ground.textOnly Go.Departure.lateStores }, { on := 10, ground := Go.Ground.textOnly Go.Departure.lateStores }, { on := 11, ground := Go.Ground.textOnly Go.Departure.lateStoresUnsure }], guard := none }) rfl (by kernel_rfl) (fun KQ hKQ => ?_)
        go_simp
        refine hKQ.out _ _ ?s_12 ?_
        case s_12 => exact .inl (by simp)
        clear hKQ KQ
        try simp only [Act.put, List.setIfInBounds_toArray, List.set_cons_zero, List.set_cons_succ]
        refine tail.next (i := 13) (o := { dst := none, op := Go.Op.store 46 (Go.Operand.tmp 10) (Go.Operand.tmp 93), type := 0, pos := "law.go:90", after := #[{ on := 11, ground := Go.Ground.data }, { on := 12, ground := Go.Ground.chain }, { on := 0, ground := Go.Ground.phase }, { on := 1, ground := Go.Ground.phase }, { on := 2, ground := Go.Ground.phase }, { on := 3, ground := Go.Ground.phase }, { on := 4, ground := Go.Ground.phase }, { on := 5, ground := Go.Ground.phase }, { on := 6, ground := Go.Ground.phase }, { on := 7, ground := Go.Ground.phase }, { on := 8, ground := Go.Ground.phase }, { on := 9, ground := Go.Ground.phase }, { on := 10, ground := Go.Ground.phase }, { on := 11, ground := Go.Ground.phase }, { on := 12, ground := Go.Ground.phase }], guard := none }) rfl (by kernel_rfl) (fun KQ hKQ => ?_)
        go_simp
        refine hKQ.out _ _ ?s_13 ?_
        case s_13 => exact .inl (by simp)
        clear hKQ KQ
        try simp only [Act.put, List.setIfInBounds_toArray, List.set_cons_zero, List.set_cons_succ]
        refine tail.done (by kernel_rfl) ?_ _
        have q0 : Blk 45 ((((y2.setCell ⟨w1.heap.size, 0, none⟩ (.int .i64 d')).setCell ⟨w1.heap.size, 1, none⟩ (.int .i64 o)).setCell ⟨w1.heap.size + 1, 0, none⟩ (.int .i64 d')).setCell ⟨w1.heap.size + 1, 1, none⟩ (.int .i64 o)) w1.heap.size [.int .i64 d', .int .i64 o] := (((n0.set_ 0 _).set_ 1 _).far (show w1.heap.size ≠ w1.heap.size + 1 by omega) _).far (show w1.heap.size ≠ w1.heap.size + 1 by omega) _
        have q1 : Blk 46 ((((y2.setCell ⟨w1.heap.size, 0, none⟩ (.int .i64 d')).setCell ⟨w1.heap.size, 1, none⟩ (.int .i64 o)).setCell ⟨w1.heap.size + 1, 0, none⟩ (.int .i64 d')).setCell ⟨w1.heap.size + 1, 1, none⟩ (.int .i64 o)) (w1.heap.size + 1) [.int .i64 d', .int .i64 o] := (((n1.far (show w1.heap.size + 1 ≠ w1.heap.size by omega) _).far (show w1.heap.size + 1 ≠ w1.heap.size by omega) _).set_ 0 _).set_ 1 _
        have hBv : Below w1.heap.size w1 ((((y2.setCell ⟨w1.heap.size, 0, none⟩ (.int .i64 d')).setCell ⟨w1.heap.size, 1, none⟩ (.int .i64 o)).setCell ⟨w1.heap.size + 1, 0, none⟩ (.int .i64 d')).setCell ⟨w1.heap.size + 1, 1, none⟩ (.int .i64 o)) := ((((hB14.drew.trans (hY12.mono hB14.size)).setCell (show w1.heap.size ≤ w1.heap.size by omega) _).setCell (show w1.heap.size ≤ w1.heap.size by omega) _).setCell (show w1.heap.size ≤ w1.heap.size + 1 by omega) _).setCell (show w1.heap.size ≤ w1.heap.size + 1 by omega) _
        clear z0 z1 u0 u1 f0 f1 n0 n1 hHy hHz hHeld HS k0 k1
        go_upto_region 16 with (fail)
        generalize ((((y2.setCell ⟨w1.heap.size, 0, none⟩ (.int .i64 d')).setCell ⟨w1.heap.size, 1, none⟩ (.int .i64 o)).setCell ⟨w1.heap.size + 1, 0, none⟩ (.int .i64 d')).setCell ⟨w1.heap.size + 1, 1, none⟩ (.int .i64 o)) = v at *
        have z0 := q0.cell 0
        simp only [List.getElem?_cons_zero] at z0
        have hnl : ¬ d' < d := by omega
        go_wp2_with fail
        go_roundw
        case rel => exact ⟨j + 1, d', by omega, by go_num, hin.out, q0, q1, hBv⟩
        case measure => first | (simp [intOf]; done) | (simp [intOf]; omega)
      · obtain rfl : j = n := by omega
        go_wp2_with fail
        go_roundw
        case rel => exact ⟨j + 1, d, by omega, by go_num, hd, k0, k1, hB14⟩
        case measure => first | (simp [intOf]; done) | (simp [intOf]; omega)
    · obtain rfl : j = n + 1 := by omega
      go_wp2_with fail
      go_ret
      exact ⟨rfl, hB1.trans (hB.mono hB1.size)⟩
end Go.Proofs.Ytpalhpkbdkodfaa.law6
