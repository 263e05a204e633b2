/- DiskArmed answers true: an armed disk does just so many steps, and the next one does nothing. Conditions: what the slice reads as. -/
import Derived.Test.YtkjaljfoaagfdaaBegunD
import Derived.Test.YtkjaljfoaagfdaaDsA
namespace Go.Proofs.Ytkjaljfoaagfdaa.both
open Go.RowKit Go.Proofs.Ytkjaljfoaagfdaa.kit Go.Proofs.Ytkjaljfoaagfdaa.nums Go.Proofs.Ytkjaljfoaagfdaa.ds Go.Proofs.Ytkjaljfoaagfdaa.disk Go.Proofs.Ytkjaljfoaagfdaa.bytes Go.Proofs.Ytkjaljfoaagfdaa.law0
set_option linter.unusedVariables false

set_option maxRecDepth 100000 in
set_option maxHeartbeats 4000000 in
theorem armed_walk (n0 : Int) (A : Option Addr) (m c : Nat) (l : List Int) (w : World) (hn0 : (Lit.int .i64 n0).wf = true) (hR : Rd w w.heap.size A m l) (hY : Byt l) (hnc : m ≤ c) (hcm : c ≤ maxLen) :
    Calls Try.prog 8 #[.int .i64 n0, .slice A m c] w fun e w' => e = .returned (.bool true) ∧ Below w.heap.size w w' := by
  have hx1 := hcm
  unfold maxLen at hx1
  have HN := Lib.hid hR.len
  have b0 : -9223372036854775808 ≤ n0 ∧ n0 ≤ 9223372036854775807 := by simpa [Lit.wf, IntKind.min, IntKind.max, IntKind.signed, IntKind.bits] using hn0
  clear hn0
  go_enter Try.func8, Try.ntmps8
  go_wp2_with fail
  refine (begun_any w).mono ?_
  rintro e w1 ⟨rfl, hB1⟩
  by_cases h1 : 30 < m
  · go_wp2_with fail
    go_ret
    exact ⟨rfl, hB1⟩
  have CP := Lib.hid (place_any n0 30 w1 b0.1 b0.2 (by omega))
  have hpl := place_in n0 30 (by omega)
  obtain ⟨n, hn⟩ := Int.eq_ofNat_of_zero_le hpl.1
  rw [hn] at CP hpl
  clear hn b0
  have hn30 : n < 30 := by omega
  go_wp2_with fail
  refine CP.out.mono ?_
  clear CP
  rintro e w2 ⟨rfl, rfl⟩
  go_wp2_with fail
  refine (disk.new_any w1).mono ?_
  rintro e w3 ⟨a, fp, rfl, hd, hfp, hB3⟩
  have hB13 := hB1.trans (hB3.mono hB1.size)
  have hA0 : Alone w3 w.heap.size a DS.fresh fp := ⟨hd, fun k hk => Nat.le_trans hB1.size (hfp k hk), DS.Good.fresh⟩
  have C2 := Lib.hid (disk.arm_any a DS.fresh fp w3 hd DS.Good.fresh (by decide) (by decide) n (by omega))
  rw [DS.armd_new] at C2
  obtain ⟨G0, _, _⟩ := DS.armd_good (n := n) (i := 0) (size := 0) (las := 0) (by omega) (by omega) (by omega) (by omega)
  go_wp2_with fail
  refine C2.out.mono ?_
  clear C2
  rintro e w4 ⟨fp4, rfl, hd4, hc4⟩
  obtain ⟨hA4, hB4⟩ := hA0.turned hB13.size hd4 hc4 G0
  have hB14 := hB13.trans hB4
  have HC := Lib.hid (show ∀ j, j < m → ∃ b o, A = some ⟨b, o, none⟩ ∧ b < w.heap.size ∧ w.cell? ⟨b, o + j, none⟩ = some (.int .u8 (l.getD j 0)) from fun j hj => by
    obtain ⟨b, o, e, hb, hcl⟩ := hR.2 (by omega)
    exact ⟨b, o, e, hb, hcl j hj⟩)
  clear hd hd4 hc4 hA0 hfp hB3 hB4 hB13 hR G0
  go_wp2_with fail
  go_loopw [6, 7, 8] (fun ss ll i wr => ∃ (j size las : Nat) (fp' : Nat → Prop), j ≤ m ∧ i = .int .i64 j ∧ ss = .int .i64 size ∧ ll = .int .i64 las ∧ las ≤ size ∧ size ≤ j ∧ Alone wr w.heap.size a (DS.armd n j size las) fp' ∧ Below w.heap.size w wr) (fun _ _ i _ => m - (intOf i).toNat)
  case atStart => exact ⟨0, 0, 0, fp4, by omega, rfl, rfl, rfl, by omega, by omega, hA4, hB14⟩
  case round =>
    obtain ⟨j, size, las, fp', hj, rfl, rfl, rfl, hls, hsj, hA, hB⟩ := hrel
    obtain ⟨hgood, hst, hpw⟩ := DS.armd_good (n := n) (i := j) (size := size) (las := las) (by omega) (by omega) (by omega) hls
    have hBsz := hB.size
    by_cases hlt : j < m
    · obtain ⟨b, o, rfl, hbl, hcell0⟩ := HC.out j hlt
      have hcell : wr.cell? ⟨b, o + j, none⟩ = some (.int .u8 (l.getD j 0)) := by rw [hB.cell (p := ⟨b, o + j, none⟩) hbl]; exact hcell0
      have hx0 := (hY.at_ j).1
      have hx1 := (hY.at_ j).2
      have i0 : (0 : Int) ≤ j ∧ (j : Int) < m := by omega
      generalize l.getD j 0 = x at *
      clear hcell0
      by_cases k0 : x % 3 = 0
      · have hR7 : Rd (wr.alloc (.cells #[.int .u8 7] 5)) (wr.heap.size + 1) (some ⟨wr.heap.size, 0, none⟩) 1 [7] := Rd.one wr 5 7
        have hA1 := hA.below (w' := (wr.alloc (.cells #[.int .u8 7] 5))) ((Below.refl _ _).alloc (Nat.le_refl _) _)
        have hB1a : Below w.heap.size w (wr.alloc (.cells #[.int .u8 7] 5)) := hB.alloc hBsz _
        have hfr : ∀ b' o', some (⟨wr.heap.size, 0, none⟩ : Addr) = some ⟨b', o', none⟩ → ¬ fp' b' := fun b' o' e hf => by
          simp only [Option.some.injEq, Addr.mk.injEq, and_true] at e
          have := hA.d.lt b' hf
          omega
        by_cases hjn : j < n
        · have C := Lib.hid (disk.append_any a (DS.armd n j size las) fp' (wr.alloc (.cells #[.int .u8 7] 5)) hA1.d hgood (by omega) (by omega) 0 (some ⟨wr.heap.size, 0, none⟩) 1 1 [7] (by simpa using hR7) (by intro z hz; simp at hz; omega) (by omega) (by omega) (by unfold maxLen; omega) (fun _ => hfr))
          rw [(DS.armd_app (n := n) (i := j) (size := size) (las := las) (by omega)).1, (DS.armd_app (n := n) (i := j) (size := size) (las := las) (by omega)).2, if_pos hjn, if_pos hjn] at C
          obtain ⟨hgood2, hst2, hpw2⟩ := DS.armd_good (n := n) (i := j + 1) (size := (size + 1)) (las := las) (by omega) (by omega) (by omega) (by omega)
          obtain ⟨hoff, hstp⟩ := DS.armd_off (n := n) (i := j + 1) (size := (size + 1)) (las := las)
          rw [show decide (n < j + 1) = false by simp; omega] at hoff
          rw [show min (j + 1) n = j + 1 by omega] at hstp
          go_wp2_with fail
          refine C.out.mono ?_
          clear C
          rintro e y1 ⟨fp1, rfl, hI1, hc1⟩
          obtain ⟨hA2, hY1⟩ := hA1.turned hB1a.size hI1 hc1 hgood2
          have hB2 := hB1a.trans hY1
          have D1 := Lib.hid fun q => dead_any a _ fp1 (y1.drewN q) (hA2.d.keep (fun _ _ => rfl)) hgood2 (by omega) (by omega)
          have D2 := Lib.hid fun q => steps_any a _ fp1 (y1.drewN q) (hA2.d.keep (fun _ _ => rfl)) hgood2 (by omega) (by omega)
          rw [hoff] at D1
          rw [hstp] at D2
          have HA2 := Lib.hid hA2
          have hjc : (j : Int) < n ∧ ¬ (n : Int) < (j : Int) + 1 := by omega
          clear hoff hstp hI1 hc1 hA hgood hgood2
          go_wp2_with fail
          refine (D1.out 0).mono ?_
          rintro e y2 ⟨rfl, q1, rfl⟩
          go_wp2_with fail
          refine (D2.out _).mono ?_
          rintro e y3 ⟨rfl, q2, rfl⟩
          go_wp2_with fail
          go_roundw
          case rel => exact ⟨j + 1, (size + 1), las, fp1, by omega, by go_num, by go_num, rfl, by omega, by omega, HA2.out.below (below_drewN (Below.refl _ _) _), below_drewN hB2 _⟩
          case measure => simp [intOf]; omega
        · have C := Lib.hid (disk.append_any a (DS.armd n j size las) fp' (wr.alloc (.cells #[.int .u8 7] 5)) hA1.d hgood (by omega) (by omega) 0 (some ⟨wr.heap.size, 0, none⟩) 1 1 [7] (by simpa using hR7) (by intro z hz; simp at hz; omega) (by omega) (by omega) (by unfold maxLen; omega) (fun _ => hfr))
          rw [(DS.armd_app (n := n) (i := j) (size := size) (las := las) (by omega)).1, (DS.armd_app (n := n) (i := j) (size := size) (las := las) (by omega)).2, if_neg hjn, if_neg hjn] at C
          obtain ⟨hgood2, hst2, hpw2⟩ := DS.armd_good (n := n) (i := j + 1) (size := size) (las := las) (by omega) (by omega) (by omega) (by omega)
          obtain ⟨hoff, hstp⟩ := DS.armd_off (n := n) (i := j + 1) (size := size) (las := las)
          rw [show decide (n < j + 1) = true by simp; omega] at hoff
          rw [show min (j + 1) n = n by omega] at hstp
          go_wp2_with fail
          refine C.out.mono ?_
          clear C
          rintro e y1 ⟨fp1, rfl, hI1, hc1⟩
          obtain ⟨hA2, hY1⟩ := hA1.turned hB1a.size hI1 hc1 hgood2
          have hB2 := hB1a.trans hY1
          have D1 := Lib.hid fun q => dead_any a _ fp1 (y1.drewN q) (hA2.d.keep (fun _ _ => rfl)) hgood2 (by omega) (by omega)
          have D2 := Lib.hid fun q => steps_any a _ fp1 (y1.drewN q) (hA2.d.keep (fun _ _ => rfl)) hgood2 (by omega) (by omega)
          rw [hoff] at D1
          rw [hstp] at D2
          have HA2 := Lib.hid hA2
          have hjc : ¬ (j : Int) < n ∧ (n : Int) < (j : Int) + 1 := by omega
          clear hoff hstp hI1 hc1 hA hgood hgood2
          go_wp2_with fail
          refine (D1.out 0).mono ?_
          rintro e y2 ⟨rfl, q1, rfl⟩
          go_wp2_with fail
          refine (D2.out _).mono ?_
          rintro e y3 ⟨rfl, q2, rfl⟩
          go_wp2_with fail
          go_roundw
          case rel => exact ⟨j + 1, size, las, fp1, by omega, by go_num, rfl, rfl, by omega, by omega, HA2.out.below (below_drewN (Below.refl _ _) _), below_drewN hB2 _⟩
          case measure => simp [intOf]; omega
      by_cases k1 : x % 3 = 1
      · by_cases hjn : j < n
        · have C := Lib.hid (disk.sync_any a (DS.armd n j size las) fp' wr hA.d hgood (by omega) (by omega) 0)
          rw [(DS.armd_sync (n := n) (i := j) (size := size) (las := las)).1, (DS.armd_sync (n := n) (i := j) (size := size) (las := las)).2, if_pos hjn, if_pos hjn] at C
          obtain ⟨hgood2, hst2, hpw2⟩ := DS.armd_good (n := n) (i := j + 1) (size := size) (las := size) (by omega) (by omega) (by omega) (by omega)
          obtain ⟨hoff, hstp⟩ := DS.armd_off (n := n) (i := j + 1) (size := size) (las := size)
          rw [show decide (n < j + 1) = false by simp; omega] at hoff
          rw [show min (j + 1) n = j + 1 by omega] at hstp
          go_wp2_with fail
          refine C.out.mono ?_
          clear C
          rintro e y1 ⟨fp1, rfl, hI1, hc1⟩
          obtain ⟨hA2, hY1⟩ := hA.turned hBsz hI1 hc1 hgood2
          have hB2 := hB.trans hY1
          have D1 := Lib.hid fun q => dead_any a _ fp1 (y1.drewN q) (hA2.d.keep (fun _ _ => rfl)) hgood2 (by omega) (by omega)
          have D2 := Lib.hid fun q => steps_any a _ fp1 (y1.drewN q) (hA2.d.keep (fun _ _ => rfl)) hgood2 (by omega) (by omega)
          rw [hoff] at D1
          rw [hstp] at D2
          have HA2 := Lib.hid hA2
          have hjc : (j : Int) < n ∧ ¬ (n : Int) < (j : Int) + 1 := by omega
          clear hoff hstp hI1 hc1 hA hgood hgood2
          go_wp2_with fail
          refine (D1.out 0).mono ?_
          rintro e y2 ⟨rfl, q1, rfl⟩
          go_wp2_with fail
          refine (D2.out _).mono ?_
          rintro e y3 ⟨rfl, q2, rfl⟩
          go_wp2_with fail
          go_roundw
          case rel => exact ⟨j + 1, size, size, fp1, by omega, by go_num, rfl, rfl, by omega, by omega, HA2.out.below (below_drewN (Below.refl _ _) _), below_drewN hB2 _⟩
          case measure => simp [intOf]; omega
        · have C := Lib.hid (disk.sync_any a (DS.armd n j size las) fp' wr hA.d hgood (by omega) (by omega) 0)
          rw [(DS.armd_sync (n := n) (i := j) (size := size) (las := las)).1, (DS.armd_sync (n := n) (i := j) (size := size) (las := las)).2, if_neg hjn, if_neg hjn] at C
          obtain ⟨hgood2, hst2, hpw2⟩ := DS.armd_good (n := n) (i := j + 1) (size := size) (las := las) (by omega) (by omega) (by omega) (by omega)
          obtain ⟨hoff, hstp⟩ := DS.armd_off (n := n) (i := j + 1) (size := size) (las := las)
          rw [show decide (n < j + 1) = true by simp; omega] at hoff
          rw [show min (j + 1) n = n by omega] at hstp
          go_wp2_with fail
          refine C.out.mono ?_
          clear C
          rintro e y1 ⟨fp1, rfl, hI1, hc1⟩
          obtain ⟨hA2, hY1⟩ := hA.turned hBsz hI1 hc1 hgood2
          have hB2 := hB.trans hY1
          have D1 := Lib.hid fun q => dead_any a _ fp1 (y1.drewN q) (hA2.d.keep (fun _ _ => rfl)) hgood2 (by omega) (by omega)
          have D2 := Lib.hid fun q => steps_any a _ fp1 (y1.drewN q) (hA2.d.keep (fun _ _ => rfl)) hgood2 (by omega) (by omega)
          rw [hoff] at D1
          rw [hstp] at D2
          have HA2 := Lib.hid hA2
          have hjc : ¬ (j : Int) < n ∧ (n : Int) < (j : Int) + 1 := by omega
          clear hoff hstp hI1 hc1 hA hgood hgood2
          go_wp2_with fail
          refine (D1.out 0).mono ?_
          rintro e y2 ⟨rfl, q1, rfl⟩
          go_wp2_with fail
          refine (D2.out _).mono ?_
          rintro e y3 ⟨rfl, q2, rfl⟩
          go_wp2_with fail
          go_roundw
          case rel => exact ⟨j + 1, size, las, fp1, by omega, by go_num, rfl, rfl, by omega, by omega, HA2.out.below (below_drewN (Below.refl _ _) _), below_drewN hB2 _⟩
          case measure => simp [intOf]; omega
      · by_cases hjn : j < n
        · have C := Lib.hid (disk.clear_any a (DS.armd n j size las) fp' wr hA.d hgood (by omega) (by omega) 1)
          rw [(DS.armd_clear (n := n) (i := j) (size := size) (las := las)).1, (DS.armd_clear (n := n) (i := j) (size := size) (las := las)).2, if_pos hjn] at C
          obtain ⟨hgood2, hst2, hpw2⟩ := DS.armd_good (n := n) (i := j + 1) (size := size) (las := las) (by omega) (by omega) (by omega) (by omega)
          obtain ⟨hoff, hstp⟩ := DS.armd_off (n := n) (i := j + 1) (size := size) (las := las)
          rw [show decide (n < j + 1) = false by simp; omega] at hoff
          rw [show min (j + 1) n = j + 1 by omega] at hstp
          go_wp2_with fail
          refine C.out.mono ?_
          clear C
          rintro e y1 ⟨fp1, rfl, hI1, hc1⟩
          obtain ⟨hA2, hY1⟩ := hA.turned hBsz hI1 hc1 hgood2
          have hB2 := hB.trans hY1
          have D1 := Lib.hid fun q => dead_any a _ fp1 (y1.drewN q) (hA2.d.keep (fun _ _ => rfl)) hgood2 (by omega) (by omega)
          have D2 := Lib.hid fun q => steps_any a _ fp1 (y1.drewN q) (hA2.d.keep (fun _ _ => rfl)) hgood2 (by omega) (by omega)
          rw [hoff] at D1
          rw [hstp] at D2
          have HA2 := Lib.hid hA2
          have hjc : (j : Int) < n ∧ ¬ (n : Int) < (j : Int) + 1 := by omega
          clear hoff hstp hI1 hc1 hA hgood hgood2
          go_wp2_with fail
          refine (D1.out 0).mono ?_
          rintro e y2 ⟨rfl, q1, rfl⟩
          go_wp2_with fail
          refine (D2.out _).mono ?_
          rintro e y3 ⟨rfl, q2, rfl⟩
          go_wp2_with fail
          go_roundw
          case rel => exact ⟨j + 1, size, las, fp1, by omega, by go_num, rfl, rfl, by omega, by omega, HA2.out.below (below_drewN (Below.refl _ _) _), below_drewN hB2 _⟩
          case measure => simp [intOf]; omega
        · have C := Lib.hid (disk.clear_any a (DS.armd n j size las) fp' wr hA.d hgood (by omega) (by omega) 1)
          rw [(DS.armd_clear (n := n) (i := j) (size := size) (las := las)).1, (DS.armd_clear (n := n) (i := j) (size := size) (las := las)).2, if_neg hjn] at C
          obtain ⟨hgood2, hst2, hpw2⟩ := DS.armd_good (n := n) (i := j + 1) (size := size) (las := las) (by omega) (by omega) (by omega) (by omega)
          obtain ⟨hoff, hstp⟩ := DS.armd_off (n := n) (i := j + 1) (size := size) (las := las)
          rw [show decide (n < j + 1) = true by simp; omega] at hoff
          rw [show min (j + 1) n = n by omega] at hstp
          go_wp2_with fail
          refine C.out.mono ?_
          clear C
          rintro e y1 ⟨fp1, rfl, hI1, hc1⟩
          obtain ⟨hA2, hY1⟩ := hA.turned hBsz hI1 hc1 hgood2
          have hB2 := hB.trans hY1
          have D1 := Lib.hid fun q => dead_any a _ fp1 (y1.drewN q) (hA2.d.keep (fun _ _ => rfl)) hgood2 (by omega) (by omega)
          have D2 := Lib.hid fun q => steps_any a _ fp1 (y1.drewN q) (hA2.d.keep (fun _ _ => rfl)) hgood2 (by omega) (by omega)
          rw [hoff] at D1
          rw [hstp] at D2
          have HA2 := Lib.hid hA2
          have hjc : ¬ (j : Int) < n ∧ (n : Int) < (j : Int) + 1 := by omega
          clear hoff hstp hI1 hc1 hA hgood hgood2
          go_wp2_with fail
          refine (D1.out 0).mono ?_
          rintro e y2 ⟨rfl, q1, rfl⟩
          go_wp2_with fail
          refine (D2.out _).mono ?_
          rintro e y3 ⟨rfl, q2, rfl⟩
          go_wp2_with fail
          go_roundw
          case rel => exact ⟨j + 1, size, las, fp1, by omega, by go_num, rfl, rfl, by omega, by omega, HA2.out.below (below_drewN (Below.refl _ _) _), below_drewN hB2 _⟩
          case measure => simp [intOf]; omega
    · obtain rfl : j = m := by omega
      have hA1 := hA.below (w' := (wr.alloc (.cells #[.int .i64 1] 3))) ((Below.refl _ _).alloc (Nat.le_refl _) _)
      have hB1a : Below w.heap.size w (wr.alloc (.cells #[.int .i64 1] 3)) := hB.alloc hBsz _
      have hZ : RdV (wr.alloc (.cells #[.int .i64 1] 3)) (wr.alloc (.cells #[.int .i64 1] 3)).heap.size (some ⟨wr.heap.size, 0, none⟩) 1 ([(1 : Int)].map (Value.int .i64)) := by simpa using RdV.one wr 3 (.int .i64 1)
      have C1 := Lib.hid (disk.power_any a (DS.armd n j size las) fp' (wr.alloc (.cells #[.int .i64 1] 3)) hA1.d hgood (by omega) (by omega) (some ⟨wr.heap.size, 0, none⟩) 1 1 [1] hZ (by intro z hz; simp at hz; omega) (fun _ b' o' e hf => by
        simp only [Option.some.injEq, Addr.mk.injEq, and_true] at e
        have := hA.d.lt b' hf
        omega) (by omega))
      obtain ⟨p1, p2, p3, p4⟩ := DS.armd_pow (n := n) (i := j) (size := size) (las := las) hls (by omega)
      have G := hgood.pow (by omega) [1]
      have hnr : ((DS.armd n j size las).powS [1]).stepped ≤ (DS.armd n j size las).stepped + 1 ∧ ((DS.armd n j size las).powS [1]).powers ≤ (DS.armd n j size las).powers + 1 := DS.Near.pow _ _
      generalize (DS.armd n j size las).powS [1] = Sp at *
      go_wp2_with fail
      refine C1.out.mono ?_
      clear C1
      rintro e y1 ⟨fp1, rfl, hI1, hc1⟩
      obtain ⟨hA2, hY1⟩ := hA1.turned hB1a.size hI1 hc1 G
      have hB2 := hB1a.trans hY1
      have C2 := Lib.hid (disk.read_any a Sp fp1 y1 hA2.d G (by omega) (by omega) 0)
      rw [p2] at C2
      go_wp2_with fail
      refine C2.out.mono ?_
      clear C2
      rintro e y2 ⟨Ax, nx, cx, rfl, hlx, hOx, hY2⟩
      have hA3 := hA2.below hY2
      have hB3 := hB2.trans (hY2.mono hB2.size)
      have hnx : nx = las + min 1 (size - las) := hlx.symm.trans p1
      have D1 := Lib.hid (dead_any a Sp fp1 y2 hA3.d G (by omega) (by omega))
      rw [p3] at D1
      have C3f := Lib.hid fun q => disk.append_any a Sp fp1 (y2.drewN q) (hA3.d.keep (fun _ _ => rfl)) G (by omega) (by omega) 0 none 0 0 [] (Rd.nil _ _ _) Byt.nil (by omega) (by omega) (by unfold maxLen; omega) (fun h => absurd h (by omega))
      rw [p4] at C3f
      have HA3 := Lib.hid (show ∀ q, Alone (y2.drewN q) w.heap.size a Sp fp1 from fun q => hA3.below (below_drewN (Below.refl _ _) _))
      have HG := Lib.hid (G.app (f := 0) (l := []) (by omega) Byt.nil)
      have hm1 : (if (size : Int) - las < 1 then (size : Int) - las else 1) = ((min 1 (size - las) : Nat) : Int) := by split <;> omega
      have hm2 : (if (1 : Int) < (size : Int) - las then 1 else (size : Int) - las) = ((min 1 (size - las) : Nat) : Int) := by split <;> omega
      have hm3 : (nx : Int) = (las : Int) + ((min 1 (size - las) : Nat) : Int) := by omega
      have hs0 : 0 ≤ (size : Int) - las ∧ (size : Int) - las ≤ 100 := by omega
      have hm0 : ((min 1 (size - las) : Nat) : Int) ≤ 1 := by omega
      generalize min 1 (size - las) = mm at *
      have hq0 : 0 ≤ (las : Int) + mm ∧ (las : Int) + mm ≤ 1000 := by omega
      have hbe : ((nx : Int) == (las : Int) + mm) = true := by rw [hm3]; simp
      have hb3s := hB3.size
      clear hA hA1 hA2 hA3 hI1 hc1 hOx hlx hnx G hgood p1 p2 p3 p4 hZ hm3
      go_wp2_with fail
      refine D1.out.mono ?_
      clear D1
      rintro e y3 ⟨rfl, q1, rfl⟩
      go_wp2_with fail
      refine (C3f.out q1).mono ?_
      clear C3f
      rintro e y4 ⟨fp2, rfl, hI4, hc4⟩
      obtain ⟨hA4, hY4⟩ := (HA3.out q1).turned hb3s hI4 hc4 HG.out
      go_wp2_with fail
      go_ret
      exact ⟨rfl, (below_drewN hB3 q1).trans hY4⟩
end Go.Proofs.Ytkjaljfoaagfdaa.both
