/- The landed entries: joins. Conditions: the log's numbers stay far from the ends of an int. -/
import Derived.Test.YteadkgjikaikjaaEntD
import Derived.BigQuiet
import Derived.Test.YteadkgjikaikjaaKitLg
import Derived.Test.YteadkgjikaikjaaTk
import Derived.Deep.RegionHeld3
import Derived.Deep.Cut
import Derived.Lib.Hide
namespace Go.Proofs.Yteadkgjikaikjaa.enti
open Go Go.RowKit Go.Proofs.Yteadkgjikaikjaa.kit Go.Proofs.Yteadkgjikaikjaa.nums Go.Proofs.Yteadkgjikaikjaa.cf Go.Proofs.Yteadkgjikaikjaa.lg
set_option linter.unusedVariables false
set_option maxHeartbeats 2000000 in
theorem joins_any (L : LgL) (A : Option Addr) (n c : Nat) (prev term : Int) (cnt : Nat) (w : World) (B : Nat) (hR : RdE w B A n L.es) (hB : B ≤ w.heap.size) (hc : n ≤ c) (hf : Fit L) (hn : cnt ≤ 3000000) : Calls Try.prog 46 #[lgV L (.slice A n c), .int .i64 prev, .int .i64 term, .int .i64 (cnt : Int)] w fun e w' => e = .returned (.bool (joinB L prev term cnt)) ∧ Below w.heap.size w w' := by
  have HR := Lib.hid hR
  have hl := hR.1
  have HF := Lib.hid hf
  have hBs := Lib.hid hB
  have hlast : lastF L = L.b + n := by unfold lastF; rw [hl]
  obtain ⟨f0, f1, f2⟩ := hf
  rw [hl] at f2
  unfold joinB
  rw [hlast, termF_is, hlast]
  clear hR hB hl
  unfold lgV at *
  obtain ⟨b, t, j, es⟩ := L
  dsimp only at *
  have k0 : Blk 30 (w.alloc (.cells #[.int .i64 b, .int .i64 t, j0 j, j1 j, j2 j, j3 j, j4 j, j5 j, j6 j, j7 j, j8 j, j9 j, j10 j, .slice A n c] 30)) w.heap.size [.int .i64 b, .int .i64 t, j0 j, j1 j, j2 j, j3 j, j4 j, j5 j, j6 j, j7 j, j8 j, j9 j, j10 j, .slice A n c] := (heap_alloc_new w (.cells #[.int .i64 b, .int .i64 t, j0 j, j1 j, j2 j, j3 j, j4 j, j5 j, j6 j, j7 j, j8 j, j9 j, j10 j, .slice A n c] 30))
  have hB : Below w.heap.size w (w.alloc (.cells #[.int .i64 b, .int .i64 t, j0 j, j1 j, j2 j, j3 j, j4 j, j5 j, j6 j, j7 j, j8 j, j9 j, j10 j, .slice A n c] 30)) := ((Below.refl w.heap.size w).alloc (by first | exact Nat.le_refl _ | simp) (.cells #[.int .i64 b, .int .i64 t, j0 j, j1 j, j2 j, j3 j, j4 j, j5 j, j6 j, j7 j, j8 j, j9 j, j10 j, .slice A n c] 30))
  have HB := Lib.hid hB
  have HS : Hid (∀ wq, Below (w.alloc (.cells #[.int .i64 b, .int .i64 t, j0 j, j1 j, j2 j, j3 j, j4 j, j5 j, j6 j, j7 j, j8 j, j9 j, j10 j, .slice A n c] 30)).heap.size (w.alloc (.cells #[.int .i64 b, .int .i64 t, j0 j, j1 j, j2 j, j3 j, j4 j, j5 j, j6 j, j7 j, j8 j, j9 j, j10 j, .slice A n c] 30)) wq → (wq.cell? ⟨w.heap.size, 0, none⟩ = some (.int .i64 b) ∧ wq.cell? ⟨w.heap.size, 1, none⟩ = some (.int .i64 t) ∧ wq.cell? ⟨w.heap.size, 2, none⟩ = some (j0 j) ∧ wq.cell? ⟨w.heap.size, 3, none⟩ = some (j1 j) ∧ wq.cell? ⟨w.heap.size, 4, none⟩ = some (j2 j) ∧ wq.cell? ⟨w.heap.size, 5, none⟩ = some (j3 j) ∧ wq.cell? ⟨w.heap.size, 6, none⟩ = some (j4 j) ∧ wq.cell? ⟨w.heap.size, 7, none⟩ = some (j5 j) ∧ wq.cell? ⟨w.heap.size, 8, none⟩ = some (j6 j) ∧ wq.cell? ⟨w.heap.size, 9, none⟩ = some (j7 j) ∧ wq.cell? ⟨w.heap.size, 10, none⟩ = some (j8 j) ∧ wq.cell? ⟨w.heap.size, 11, none⟩ = some (j9 j) ∧ wq.cell? ⟨w.heap.size, 12, none⟩ = some (j10 j) ∧ wq.cell? ⟨w.heap.size, 13, none⟩ = some (.slice A n c))) := fun wq hq => blk14 (k0.below hq k0.lt)
  have q0 := Below.refl (w.alloc (.cells #[.int .i64 b, .int .i64 t, j0 j, j1 j, j2 j, j3 j, j4 j, j5 j, j6 j, j7 j, j8 j, j9 j, j10 j, .slice A n c] 30)).heap.size (w.alloc (.cells #[.int .i64 b, .int .i64 t, j0 j, j1 j, j2 j, j3 j, j4 j, j5 j, j6 j, j7 j, j8 j, j9 j, j10 j, .slice A n c] 30))
  have K0 := Lib.hid k0
  clear hB k0
  by_cases c1 : prev < 0
  · have e0 : decide (0 ≤ prev ∧ prev ≤ b + (n : Int) ∧ b ≤ prev + (cnt : Int)) = false := by simp; omega
    rw [e0, Bool.false_and]
    go_enter Try.func46, Try.ntmps46
    go_upto_region 1 with (fail)
    generalize (w.alloc (.cells #[.int .i64 b, .int .i64 t, j0 j, j1 j, j2 j, j3 j, j4 j, j5 j, j6 j, j7 j, j8 j, j9 j, j10 j, .slice A n c] 30)) = w1 at *
    have HR1 := Lib.hid (HR.out.on (HB.out.mono hBs.out) (Nat.le_trans hBs.out HB.out.size))
    have CL := Lib.hid (fun w' => last_any ⟨b, t, j, es⟩ A n c w' HR1.out.1 HF.out)
    have CT := Lib.hid (fun w' (hb : Below w1.heap.size w1 w') => term_any ⟨b, t, j, es⟩ A n c prev w' w1.heap.size (HR1.out.below hb) hb.size hc HF.out)
    unfold lgV at *
    dsimp only at *
    rw [hlast] at CL
    simp only [termF_is, hlast] at CT
    clear hlast
    have r0 := HS.out _ q0
    go_wp2_with fail
    go_ret
    exact ⟨rfl, HB.out⟩
  · by_cases c2 : b + (n : Int) < prev
    · have e0 : decide (0 ≤ prev ∧ prev ≤ b + (n : Int) ∧ b ≤ prev + (cnt : Int)) = false := by simp; omega
      rw [e0, Bool.false_and]
      go_enter Try.func46, Try.ntmps46
      go_upto_region 1 with (fail)
      generalize (w.alloc (.cells #[.int .i64 b, .int .i64 t, j0 j, j1 j, j2 j, j3 j, j4 j, j5 j, j6 j, j7 j, j8 j, j9 j, j10 j, .slice A n c] 30)) = w1 at *
      have HR1 := Lib.hid (HR.out.on (HB.out.mono hBs.out) (Nat.le_trans hBs.out HB.out.size))
      have CL := Lib.hid (fun w' => last_any ⟨b, t, j, es⟩ A n c w' HR1.out.1 HF.out)
      have CT := Lib.hid (fun w' (hb : Below w1.heap.size w1 w') => term_any ⟨b, t, j, es⟩ A n c prev w' w1.heap.size (HR1.out.below hb) hb.size hc HF.out)
      unfold lgV at *
      dsimp only at *
      rw [hlast] at CL
      simp only [termF_is, hlast] at CT
      clear hlast
      have r0 := HS.out _ q0
      go_wp2_with fail
      refine (CL.out _).mono ?_
      rintro e y1 ⟨rfl, hY1⟩
      have q1 := q0.trans (hY1.mono q0.size)
      clear r0
      have r1 := HS.out _ q1
      go_wp2_with fail
      go_ret
      exact ⟨rfl, HB.out.trans (q1.mono HB.out.size)⟩
    · have w1 : IntKind.i64.wrap (prev + (cnt : Int)) = prev + (cnt : Int) := enti.wrap_sm (by omega) (by omega)
      by_cases c3 : prev + (cnt : Int) < b
      · have e0 : decide (0 ≤ prev ∧ prev ≤ b + (n : Int) ∧ b ≤ prev + (cnt : Int)) = false := by simp; omega
        rw [e0, Bool.false_and]
        go_enter Try.func46, Try.ntmps46
        go_upto_region 1 with (fail)
        generalize (w.alloc (.cells #[.int .i64 b, .int .i64 t, j0 j, j1 j, j2 j, j3 j, j4 j, j5 j, j6 j, j7 j, j8 j, j9 j, j10 j, .slice A n c] 30)) = w1 at *
        have HR1 := Lib.hid (HR.out.on (HB.out.mono hBs.out) (Nat.le_trans hBs.out HB.out.size))
        have CL := Lib.hid (fun w' => last_any ⟨b, t, j, es⟩ A n c w' HR1.out.1 HF.out)
        have CT := Lib.hid (fun w' (hb : Below w1.heap.size w1 w') => term_any ⟨b, t, j, es⟩ A n c prev w' w1.heap.size (HR1.out.below hb) hb.size hc HF.out)
        unfold lgV at *
        dsimp only at *
        rw [hlast] at CL
        simp only [termF_is, hlast] at CT
        clear hlast
        have r0 := HS.out _ q0
        go_wp2_with fail
        refine (CL.out _).mono ?_
        rintro e y1 ⟨rfl, hY1⟩
        have q1 := q0.trans (hY1.mono q0.size)
        clear r0
        have r1 := HS.out _ q1
        go_wp2_with fail
        go_ret
        exact ⟨rfl, HB.out.trans (q1.mono HB.out.size)⟩
      · have e0 : decide (0 ≤ prev ∧ prev ≤ b + (n : Int) ∧ b ≤ prev + (cnt : Int)) = true := by simp; omega
        rw [e0, Bool.true_and]
        by_cases c4 : b ≤ prev
        · have e1 : decide (b ≤ prev ∧ prev ≤ b + (n : Int)) = true := by simp; omega
          rw [e1]
          go_enter Try.func46, Try.ntmps46
          go_upto_region 1 with (fail)
          generalize (w.alloc (.cells #[.int .i64 b, .int .i64 t, j0 j, j1 j, j2 j, j3 j, j4 j, j5 j, j6 j, j7 j, j8 j, j9 j, j10 j, .slice A n c] 30)) = w1 at *
          have HR1 := Lib.hid (HR.out.on (HB.out.mono hBs.out) (Nat.le_trans hBs.out HB.out.size))
          have CL := Lib.hid (fun w' => last_any ⟨b, t, j, es⟩ A n c w' HR1.out.1 HF.out)
          have CT := Lib.hid (fun w' (hb : Below w1.heap.size w1 w') => term_any ⟨b, t, j, es⟩ A n c prev w' w1.heap.size (HR1.out.below hb) hb.size hc HF.out)
          unfold lgV at *
          dsimp only at *
          rw [hlast] at CL
          simp only [termF_is, hlast, e1] at CT
          clear hlast
          have r0 := HS.out _ q0
          go_wp2_with fail
          refine (CL.out _).mono ?_
          rintro e y1 ⟨rfl, hY1⟩
          have q1 := q0.trans (hY1.mono q0.size)
          clear r0
          have r1 := HS.out _ q1
          go_wp2_with fail
          refine (CT.out _ q1).mono ?_
          rintro e y2 ⟨rfl, hY2⟩
          have q2 := q1.trans (hY2.mono q1.size)
          clear r1
          have r2 := HS.out _ q2
          go_wp2_with fail
          go_ret
          exact ⟨by first | rfl | simp, HB.out.trans (q2.mono HB.out.size)⟩
        · have e1 : decide (b ≤ prev ∧ prev ≤ b + (n : Int)) = false := by simp; omega
          rw [e1]
          go_enter Try.func46, Try.ntmps46
          go_upto_region 1 with (fail)
          generalize (w.alloc (.cells #[.int .i64 b, .int .i64 t, j0 j, j1 j, j2 j, j3 j, j4 j, j5 j, j6 j, j7 j, j8 j, j9 j, j10 j, .slice A n c] 30)) = w1 at *
          have HR1 := Lib.hid (HR.out.on (HB.out.mono hBs.out) (Nat.le_trans hBs.out HB.out.size))
          have CL := Lib.hid (fun w' => last_any ⟨b, t, j, es⟩ A n c w' HR1.out.1 HF.out)
          have CT := Lib.hid (fun w' (hb : Below w1.heap.size w1 w') => term_any ⟨b, t, j, es⟩ A n c prev w' w1.heap.size (HR1.out.below hb) hb.size hc HF.out)
          unfold lgV at *
          dsimp only at *
          rw [hlast] at CL
          simp only [termF_is, hlast, e1] at CT
          clear hlast
          have r0 := HS.out _ q0
          go_wp2_with fail
          refine (CL.out _).mono ?_
          rintro e y1 ⟨rfl, hY1⟩
          have q1 := q0.trans (hY1.mono q0.size)
          clear r0
          have r1 := HS.out _ q1
          go_wp2_with fail
          refine (CT.out _ q1).mono ?_
          rintro e y2 ⟨rfl, hY2⟩
          have q2 := q1.trans (hY2.mono q1.size)
          clear r1
          have r2 := HS.out _ q2
          go_wp2_with fail
          go_ret
          exact ⟨by first | rfl | simp, HB.out.trans (q2.mono HB.out.size)⟩
end Go.Proofs.Yteadkgjikaikjaa.enti
