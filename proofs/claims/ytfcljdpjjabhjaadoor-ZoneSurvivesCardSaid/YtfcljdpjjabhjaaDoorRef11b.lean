/- What the document's answer to zone (antipoderef11) comes to: what a configuration survives, which zones may be. Conditions: slices read as lists of ints; sets are uint16 values. -/
import Derived.Test.YtfcljdpjjabhjaaDoorRef11a
import Derived.Test.YtfcljdpjjabhjaaDoorRef10
import Derived.Test.YtfcljdpjjabhjaaDoorTk
import Derived.Deep.RegionHeld3
import Derived.Deep.Cut
namespace Go.Proofs.YtfcljdpjjabhjaaDoor.ref11
open Go Go.RowKit Go.Proofs.YtfcljdpjjabhjaaDoor.kit Go.Proofs.YtfcljdpjjabhjaaDoor.nums Go.Proofs.YtfcljdpjjabhjaaDoor.se Go.Proofs.YtfcljdpjjabhjaaDoor.cf Go.Proofs.YtfcljdpjjabhjaaDoor.zn Go.Proofs.YtfcljdpjjabhjaaDoor.ref9
set_option linter.unusedVariables false

theorem has_join (a b j : Nat) (hj : j < 9) : hasF (joinF a b) ((j + 1 : Nat) : Int) = hasF (a ||| b) ((j + 1 : Nat) : Int) := by
  rw [hasF_node (by omega) (by omega), hasF_node (by omega) (by omega)]
  unfold joinF
  rw [Nat.testBit_and, bit_1022, decide_eq_true (by omega), Bool.and_true]
theorem cnt_step (s g j : Nat) (hj : j < 9) : cntTo (anF s g) (j + 1) = cntTo (anF s g) j + (hasF s ((j + 1 : Nat) : Int) && !hasF g ((j + 1 : Nat) : Int)).toNat := by
  rw [hasF_node (by omega) (by omega), hasF_node (by omega) (by omega), ← an_bit]
  rfl
set_option maxHeartbeats 2000000 in
theorem without_any (c : CfL) (g : Nat) (w : World) (h : c.ok) (hg : g < 65536) : Calls Tryd.prog 41 #[cfV c, .int .u16 (g : Int)] w fun e w' => e = .returned (.bool (withoutF c g)) ∧ Below w.heap.size w w' := by
  have CG := Lib.hid (fun (j : Nat) (hj : j < 9) w => has_any g ((j + 1 : Nat) : Int) w hg (by omega) (by omega))
  have CV := Lib.hid (fun (j : Nat) (hj : j < 9) w => has_any c.v ((j + 1 : Nat) : Int) w h.1 (by omega) (by omega))
  have CJ := Lib.hid (fun w => ref10.votes_any c w h)
  have CW := Lib.hid (fun (j : Nat) (hj : j < 9) w => has_any (joinF c.v c.w) ((j + 1 : Nat) : Int) w (join_lt h.1 h.2.1) (by omega) (by omega))
  have HJ := Lib.hid (fun (j : Nat) (hj : j < 9) => has_join c.v c.w j hj)
  have H1 := Lib.hid (fun (j : Nat) (hj : j < 9) => cnt_step (votF c) g j hj)
  have H2 := Lib.hid (fun (j : Nat) (hj : j < 9) => cnt_step c.v g j hj)
  have L1 := Lib.hid (fun (j : Nat) => cntTo_le (anF (votF c) g) j)
  have L2 := Lib.hid (fun (j : Nat) => cntTo_le (anF c.v g) j)
  have HF : Hid (withoutF c g = (decide (c.e ≤ cntTo (anF (votF c) g) 9) && decide (c.k ≤ cntTo (anF (votF c) g) 9) && decide (0 < cntTo (anF c.v g) 9))) := Lib.hid rfl
  generalize withoutF c g = res at *
  generalize hvt : votF c = vt at *
  have hvt2 : c.v ||| c.w = vt := hvt
  rw [hvt2] at HJ
  generalize joinF c.v c.w = jn at *
  generalize anF vt g = s1 at *
  generalize anF c.v g = s2 at *
  clear hvt hvt2
  unfold cfV at *
  obtain ⟨cv, cw, cl, ce, ck⟩ := c
  dsimp only at *
  have k0 : Blk 30 (w.alloc (.cells #[.int .u16 (cv : Int), .int .u16 (cw : Int), .int .u16 (cl : Int), .int .i64 ce, .int .i64 ck] 30)) w.heap.size [.int .u16 (cv : Int), .int .u16 (cw : Int), .int .u16 (cl : Int), .int .i64 ce, .int .i64 ck] := heap_alloc_new w _
  have HB := Lib.hid ((Below.refl w.heap.size w).alloc (Nat.le_refl _) (.cells #[.int .u16 (cv : Int), .int .u16 (cw : Int), .int .u16 (cl : Int), .int .i64 ce, .int .i64 ck] 30))
  have HS : Hid (∀ wq, Below (w.alloc (.cells #[.int .u16 (cv : Int), .int .u16 (cw : Int), .int .u16 (cl : Int), .int .i64 ce, .int .i64 ck] 30)).heap.size (w.alloc (.cells #[.int .u16 (cv : Int), .int .u16 (cw : Int), .int .u16 (cl : Int), .int .i64 ce, .int .i64 ck] 30)) wq → (wq.cell? ⟨w.heap.size, 0, none⟩ = some (.int .u16 (cv : Int)) ∧ wq.cell? ⟨w.heap.size, 1, none⟩ = some (.int .u16 (cw : Int)) ∧ wq.cell? ⟨w.heap.size, 2, none⟩ = some (.int .u16 (cl : Int)) ∧ wq.cell? ⟨w.heap.size, 3, none⟩ = some (.int .i64 ce) ∧ wq.cell? ⟨w.heap.size, 4, none⟩ = some (.int .i64 ck))) := fun wq hq => blk5 (k0.below hq k0.lt)
  have q0 := Below.refl (w.alloc (.cells #[.int .u16 (cv : Int), .int .u16 (cw : Int), .int .u16 (cl : Int), .int .i64 ce, .int .i64 ck] 30)).heap.size (w.alloc (.cells #[.int .u16 (cv : Int), .int .u16 (cw : Int), .int .u16 (cl : Int), .int .i64 ce, .int .i64 ck] 30))
  clear k0
  clear h
  go_enter Tryd.func41, Tryd.ntmps41
  go_upto_region 1 with (fail)
  generalize (w.alloc (.cells #[.int .u16 (cv : Int), .int .u16 (cw : Int), .int .u16 (cl : Int), .int .i64 ce, .int .i64 ck] 30)) = w1 at *
  have r0 := HS.out _ q0
  go_wp2_with fail
  go_loopw [5, 6, 7] (fun lv vv nv wr => ∃ (j a b : Nat), j ≤ 9 ∧ lv = .int .i64 (a : Int) ∧ vv = .int .i64 (b : Int) ∧ nv = .int .i64 ((j + 1 : Nat) : Int) ∧ Hid (cntTo s1 j = a) ∧ Hid (cntTo s2 j = b) ∧ Below w1.heap.size w1 wr) (fun _ _ nv _ => 10 - (intOf nv).toNat)
  case atStart => exact ⟨0, 0, 0, by omega, rfl, rfl, rfl, rfl, rfl, Below.refl _ _⟩
  case round =>
    obtain ⟨j, a, b, hj, rfl, rfl, rfl, HA, HB2, hBr⟩ := hrel
    have r1 := HS.out _ hBr
    have ha := L1.out j
    have hb := L2.out j
    rw [HA.out] at ha
    rw [HB2.out] at hb
    by_cases hlt : j < 9
    · have cG := Lib.hid (CG.out j hlt)
      have cV := Lib.hid (CV.out j hlt)
      have cW := Lib.hid (CW.out j hlt)
      have h1 := H1.out j hlt
      have h2 := H2.out j hlt
      rw [HA.out] at h1
      rw [HB2.out] at h2
      have hjn := HJ.out j hlt
      rw [hjn] at cW
      clear hjn CG CV CW HJ H1 H2 L1 L2
      generalize hasF g ((j + 1 : Nat) : Int) = bg at *
      generalize hasF cv ((j + 1 : Nat) : Int) = bv at *
      generalize hasF vt ((j + 1 : Nat) : Int) = bw at *
      cases bg
      · cases bv
        · cases bw
          · have N1 : Hid (cntTo s1 (j + 1) = a) := by show _ = _; rw [h1]; rfl
            have N2 : Hid (cntTo s2 (j + 1) = b) := by show _ = _; rw [h2]; rfl
            clear h1 h2
            go_wp2_with fail
            refine (cG.out _).mono ?_
            rintro e y ⟨rfl, rfl⟩
            go_wp2_with fail
            refine (cV.out _).mono ?_
            rintro e y ⟨rfl, rfl⟩
            go_wp2_with fail
            refine (CJ.out _).mono ?_
            rintro e y1 ⟨rfl, hY1⟩
            have q1 := hBr.trans (hY1.mono hBr.size)
            go_wp2_with fail
            refine (cW.out _).mono ?_
            rintro e y ⟨rfl, rfl⟩
            go_wp2_with fail
            go_round
            case rel => exact ⟨j + 1, a, b, by omega, by first | rfl | go_num, by first | rfl | go_num, by go_num, N1, N2, q1⟩
            case measure => simp [intOf]; omega
          · have N1 : Hid (cntTo s1 (j + 1) = a + 1) := by show _ = _; rw [h1]; rfl
            have N2 : Hid (cntTo s2 (j + 1) = b) := by show _ = _; rw [h2]; rfl
            clear h1 h2
            go_wp2_with fail
            refine (cG.out _).mono ?_
            rintro e y ⟨rfl, rfl⟩
            go_wp2_with fail
            refine (cV.out _).mono ?_
            rintro e y ⟨rfl, rfl⟩
            go_wp2_with fail
            refine (CJ.out _).mono ?_
            rintro e y1 ⟨rfl, hY1⟩
            have q1 := hBr.trans (hY1.mono hBr.size)
            go_wp2_with fail
            refine (cW.out _).mono ?_
            rintro e y ⟨rfl, rfl⟩
            go_wp2_with fail
            go_round
            case rel => exact ⟨j + 1, a + 1, b, by omega, by first | rfl | go_num, by first | rfl | go_num, by go_num, N1, N2, q1⟩
            case measure => simp [intOf]; omega
        · cases bw
          · have N1 : Hid (cntTo s1 (j + 1) = a) := by show _ = _; rw [h1]; rfl
            have N2 : Hid (cntTo s2 (j + 1) = b + 1) := by show _ = _; rw [h2]; rfl
            clear h1 h2
            go_wp2_with fail
            refine (cG.out _).mono ?_
            rintro e y ⟨rfl, rfl⟩
            go_wp2_with fail
            refine (cV.out _).mono ?_
            rintro e y ⟨rfl, rfl⟩
            go_wp2_with fail
            refine (CJ.out _).mono ?_
            rintro e y1 ⟨rfl, hY1⟩
            have q1 := hBr.trans (hY1.mono hBr.size)
            go_wp2_with fail
            refine (cW.out _).mono ?_
            rintro e y ⟨rfl, rfl⟩
            go_wp2_with fail
            go_round
            case rel => exact ⟨j + 1, a, b + 1, by omega, by first | rfl | go_num, by first | rfl | go_num, by go_num, N1, N2, q1⟩
            case measure => simp [intOf]; omega
          · have N1 : Hid (cntTo s1 (j + 1) = a + 1) := by show _ = _; rw [h1]; rfl
            have N2 : Hid (cntTo s2 (j + 1) = b + 1) := by show _ = _; rw [h2]; rfl
            clear h1 h2
            go_wp2_with fail
            refine (cG.out _).mono ?_
            rintro e y ⟨rfl, rfl⟩
            go_wp2_with fail
            refine (cV.out _).mono ?_
            rintro e y ⟨rfl, rfl⟩
            go_wp2_with fail
            refine (CJ.out _).mono ?_
            rintro e y1 ⟨rfl, hY1⟩
            have q1 := hBr.trans (hY1.mono hBr.size)
            go_wp2_with fail
            refine (cW.out _).mono ?_
            rintro e y ⟨rfl, rfl⟩
            go_wp2_with fail
            go_round
            case rel => exact ⟨j + 1, a + 1, b + 1, by omega, by first | rfl | go_num, by first | rfl | go_num, by go_num, N1, N2, q1⟩
            case measure => simp [intOf]; omega
      · have N1 : Hid (cntTo s1 (j + 1) = a) := by show _ = _; rw [h1]; simp
        have N2 : Hid (cntTo s2 (j + 1) = b) := by show _ = _; rw [h2]; simp
        clear h1 h2
        go_wp2_with fail
        refine (cG.out _).mono ?_
        rintro e y ⟨rfl, rfl⟩
        go_wp2_with fail
        go_round
        case rel => exact ⟨j + 1, a, b, by omega, rfl, rfl, by go_num, N1, N2, hBr⟩
        case measure => simp [intOf]; omega
    · obtain rfl : j = 9 := by omega
      rw [HA.out, HB2.out] at HF
      clear CG CV CJ CW HJ H1 H2 L1 L2 HA HB2
      by_cases e1 : ce ≤ a
      · by_cases e2 : ck ≤ a
        · go_wp2_with fail
          go_ret
          exact ⟨ret_bool (by rw [HF.out]; simp <;> omega), HB.out.trans (hBr.mono HB.out.size)⟩
        · go_wp2_with fail
          go_ret
          exact ⟨ret_bool (by rw [HF.out]; simp <;> omega), HB.out.trans (hBr.mono HB.out.size)⟩
      · go_wp2_with fail
        go_ret
        exact ⟨ret_bool (by rw [HF.out]; simp <;> omega), HB.out.trans (hBr.mono HB.out.size)⟩
end Go.Proofs.YtfcljdpjjabhjaaDoor.ref11
