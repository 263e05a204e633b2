/- The landed entries: Newer. Conditions: the log's numbers stay far from the ends of an int. -/
import Derived.Test.YteadkgjikaikjaaEntD
import Derived.BigQuiet
import Derived.Test.YteadkgjikaikjaaKitLg
import Derived.Test.YteadkgjikaikjaaTk
import Derived.Deep.RegionHeld3
import Derived.Deep.Cut
import Derived.Lib.Hide
namespace Go.Proofs.Yteadkgjikaikjaa.enti
open Go Go.RowKit Go.Proofs.Yteadkgjikaikjaa.kit Go.Proofs.Yteadkgjikaikjaa.nums Go.Proofs.Yteadkgjikaikjaa.cf Go.Proofs.Yteadkgjikaikjaa.lg
set_option linter.unusedVariables false
set_option maxHeartbeats 2000000 in
theorem newer_any (L : LgL) (A : Option Addr) (n c : Nat) (last term : Int) (w : World) (B : Nat) (hR : RdE w B A n L.es) (hB : B ≤ w.heap.size) (hc : n ≤ c) (hf : Fit L) : Calls Try.prog 24 #[lgV L (.slice A n c), .int .i64 last, .int .i64 term] w fun e w' => e = .returned (.bool (newerF L last term)) ∧ Below w.heap.size w w' := by
  have HR := Lib.hid hR
  have hl := hR.1
  have HF := Lib.hid hf
  have hBs := Lib.hid hB
  have hlast : lastF L = L.b + n := by unfold lastF; rw [hl]
  unfold newerF
  rw [hlast]
  clear hR hB hl hf
  unfold lgV at *
  obtain ⟨b, t, j, es⟩ := L
  dsimp only at *
  have HT : Hid (∀ x, termF ⟨b, t, j, es⟩ (b + (n : Int)) = x → termF ⟨b, t, j, es⟩ (b + (n : Int)) = x) := fun x h => h
  generalize hTT : termF ⟨b, t, j, es⟩ (b + (n : Int)) = TT at *
  obtain ⟨tv, tb⟩ := TT
  dsimp only
  have k0 : Blk 30 (w.alloc (.cells #[.int .i64 b, .int .i64 t, j0 j, j1 j, j2 j, j3 j, j4 j, j5 j, j6 j, j7 j, j8 j, j9 j, j10 j, .slice A n c] 30)) w.heap.size [.int .i64 b, .int .i64 t, j0 j, j1 j, j2 j, j3 j, j4 j, j5 j, j6 j, j7 j, j8 j, j9 j, j10 j, .slice A n c] := (heap_alloc_new w (.cells #[.int .i64 b, .int .i64 t, j0 j, j1 j, j2 j, j3 j, j4 j, j5 j, j6 j, j7 j, j8 j, j9 j, j10 j, .slice A n c] 30))
  have hB : Below w.heap.size w (w.alloc (.cells #[.int .i64 b, .int .i64 t, j0 j, j1 j, j2 j, j3 j, j4 j, j5 j, j6 j, j7 j, j8 j, j9 j, j10 j, .slice A n c] 30)) := ((Below.refl w.heap.size w).alloc (by first | exact Nat.le_refl _ | simp) (.cells #[.int .i64 b, .int .i64 t, j0 j, j1 j, j2 j, j3 j, j4 j, j5 j, j6 j, j7 j, j8 j, j9 j, j10 j, .slice A n c] 30))
  have HB := Lib.hid hB
  have HS : Hid (∀ wq, Below (w.alloc (.cells #[.int .i64 b, .int .i64 t, j0 j, j1 j, j2 j, j3 j, j4 j, j5 j, j6 j, j7 j, j8 j, j9 j, j10 j, .slice A n c] 30)).heap.size (w.alloc (.cells #[.int .i64 b, .int .i64 t, j0 j, j1 j, j2 j, j3 j, j4 j, j5 j, j6 j, j7 j, j8 j, j9 j, j10 j, .slice A n c] 30)) wq → (wq.cell? ⟨w.heap.size, 0, none⟩ = some (.int .i64 b) ∧ wq.cell? ⟨w.heap.size, 1, none⟩ = some (.int .i64 t) ∧ wq.cell? ⟨w.heap.size, 2, none⟩ = some (j0 j) ∧ wq.cell? ⟨w.heap.size, 3, none⟩ = some (j1 j) ∧ wq.cell? ⟨w.heap.size, 4, none⟩ = some (j2 j) ∧ wq.cell? ⟨w.heap.size, 5, none⟩ = some (j3 j) ∧ wq.cell? ⟨w.heap.size, 6, none⟩ = some (j4 j) ∧ wq.cell? ⟨w.heap.size, 7, none⟩ = some (j5 j) ∧ wq.cell? ⟨w.heap.size, 8, none⟩ = some (j6 j) ∧ wq.cell? ⟨w.heap.size, 9, none⟩ = some (j7 j) ∧ wq.cell? ⟨w.heap.size, 10, none⟩ = some (j8 j) ∧ wq.cell? ⟨w.heap.size, 11, none⟩ = some (j9 j) ∧ wq.cell? ⟨w.heap.size, 12, none⟩ = some (j10 j) ∧ wq.cell? ⟨w.heap.size, 13, none⟩ = some (.slice A n c))) := fun wq hq => blk14 (k0.below hq k0.lt)
  have q0 := Below.refl (w.alloc (.cells #[.int .i64 b, .int .i64 t, j0 j, j1 j, j2 j, j3 j, j4 j, j5 j, j6 j, j7 j, j8 j, j9 j, j10 j, .slice A n c] 30)).heap.size (w.alloc (.cells #[.int .i64 b, .int .i64 t, j0 j, j1 j, j2 j, j3 j, j4 j, j5 j, j6 j, j7 j, j8 j, j9 j, j10 j, .slice A n c] 30))
  have K0 := Lib.hid k0
  clear hB k0
  by_cases c1 : term = tv
  · rw [if_pos c1]
    go_enter Try.func24, Try.ntmps24
    go_upto_region 1 with (fail)
    generalize (w.alloc (.cells #[.int .i64 b, .int .i64 t, j0 j, j1 j, j2 j, j3 j, j4 j, j5 j, j6 j, j7 j, j8 j, j9 j, j10 j, .slice A n c] 30)) = w1 at *
    have HR1 := Lib.hid (HR.out.on (HB.out.mono hBs.out) (Nat.le_trans hBs.out HB.out.size))
    have CL := Lib.hid (fun w' (hb : Below w1.heap.size w1 w') => last_any ⟨b, t, j, es⟩ A n c w' HR1.out.1 HF.out)
    have CT := Lib.hid (fun w' (hb : Below w1.heap.size w1 w') => term_any ⟨b, t, j, es⟩ A n c (b + (n : Int)) w' w1.heap.size (HR1.out.below hb) hb.size hc HF.out)
    unfold lgV at CL CT
    dsimp only at CL CT
    rw [hlast] at CL
    rw [hTT] at CT
    clear hTT HT hlast
    have r0 := HS.out _ q0
    have q1 := q0.drew
    refine wp_region_held_drew (S := fun wq => (wq.cell? ⟨w.heap.size, 0, none⟩ = some (.int .i64 b) ∧ wq.cell? ⟨w.heap.size, 1, none⟩ = some (.int .i64 t) ∧ wq.cell? ⟨w.heap.size, 2, none⟩ = some (j0 j) ∧ wq.cell? ⟨w.heap.size, 3, none⟩ = some (j1 j) ∧ wq.cell? ⟨w.heap.size, 4, none⟩ = some (j2 j) ∧ wq.cell? ⟨w.heap.size, 5, none⟩ = some (j3 j) ∧ wq.cell? ⟨w.heap.size, 6, none⟩ = some (j4 j) ∧ wq.cell? ⟨w.heap.size, 7, none⟩ = some (j5 j) ∧ wq.cell? ⟨w.heap.size, 8, none⟩ = some (j6 j) ∧ wq.cell? ⟨w.heap.size, 9, none⟩ = some (j7 j) ∧ wq.cell? ⟨w.heap.size, 10, none⟩ = some (j8 j) ∧ wq.cell? ⟨w.heap.size, 11, none⟩ = some (j9 j) ∧ wq.cell? ⟨w.heap.size, 12, none⟩ = some (j10 j) ∧ wq.cell? ⟨w.heap.size, 13, none⟩ = some (.slice A n c))) (by kernel_rfl) ?s_lnewer0 (fun hHeld => ?_)
    case s_lnewer0 => exact HS.out _ q1
    refine tk 0 { dst := some 10, op := .load 30 (.tmp 3), type := 30, pos := "entries.go:102", after := #[], guard := none } _ ?_
    try simp only [Act.put, List.setIfInBounds_toArray, List.set_cons_zero, List.set_cons_succ]
    refine tk 1 { dst := some 11, op := .load 30 (.tmp 3), type := 30, pos := "entries.go:102", after := #[], guard := none } _ ?_
    try simp only [Act.put, List.setIfInBounds_toArray, List.set_cons_zero, List.set_cons_succ]
    refine wpAnyH_ready (rs := [2]) (by kernel_rfl) (by simp) ?_
    refine AllReadyH.cons (o := { dst := some 12, op := .call { callee := .value (.func 17), args := #[.tmp 11], argTypes := #[30] }, type := 3, pos := "entries.go:102", after := #[{ on := 1, ground := .data }], guard := none }) rfl (fun KQ hKQ => ?_) AllReadyH.nil
    go_simp
    refine (CL.out _ q1).mono ?_
    rintro e y2 ⟨rfl, hY2⟩
    have q2 := q1.trans (hY2.mono q1.size)
    have r2 := HS.out _ q2
    go_wp2_with fail
    refine hKQ.out _ _ ?s_2 (fun hHeld2 => ?_)
    case s_2 => exact r2
    clear hKQ KQ
    try simp only [Act.put, List.setIfInBounds_toArray, List.set_cons_zero, List.set_cons_succ]
    refine wpAnyH_ready (rs := [3]) (by kernel_rfl) (by simp) ?_
    refine AllReadyH.cons (o := { dst := some 13, op := .call { callee := .value (.func 13), args := #[.tmp 10, .tmp 12], argTypes := #[30, 3] }, type := 34, pos := "entries.go:102", after := #[{ on := 0, ground := .data }, { on := 2, ground := .data }, { on := 2, ground := .chain }], guard := none }) rfl (fun KQ hKQ => ?_) AllReadyH.nil
    go_simp
    refine (CT.out _ q2).mono ?_
    rintro e y3 ⟨rfl, hY3⟩
    have q3 := q2.trans (hY3.mono q2.size)
    have r3 := HS.out _ q3
    go_wp2_with fail
    refine hKQ.out _ _ ?s_3 (fun hHeld3 => ?_)
    case s_3 => exact r3
    clear hKQ KQ
    try simp only [Act.put, List.setIfInBounds_toArray, List.set_cons_zero, List.set_cons_succ]
    refine tk 4 { dst := some 9, op := .move (.tmp 13), type := 34, pos := "entries.go:102", after := #[{ on := 3, ground := .data }], guard := none } _ ?_
    try simp only [Act.put, List.setIfInBounds_toArray, List.set_cons_zero, List.set_cons_succ]
    refine tk 5 { dst := some 14, op := .extract (.tmp 9) 0, type := 3, pos := "entries.go:102", after := #[{ on := 4, ground := .data }], guard := none } _ ?_
    try simp only [Act.put, List.setIfInBounds_toArray, List.set_cons_zero, List.set_cons_succ]
    refine tk 6 { dst := some 15, op := .extract (.tmp 9) 1, type := 4, pos := "entries.go:102", after := #[{ on := 4, ground := .data }, { on := 7, ground := .gcOnly Go.Departure.lateStores }], guard := none } _ ?_
    try simp only [Act.put, List.setIfInBounds_toArray, List.set_cons_zero, List.set_cons_succ]
    refine tk 7 { dst := some 7, op := .assign (.tmp 14), type := 3, pos := "entries.go:102", after := #[{ on := 5, ground := .data }, { on := 3, ground := .chain }, { on := 0, ground := .phase }, { on := 1, ground := .phase }, { on := 2, ground := .phase }, { on := 3, ground := .phase }, { on := 4, ground := .phase }, { on := 5, ground := .phase }, { on := 6, ground := .textOnly Go.Departure.lateStores }], guard := none } _ ?_
    try simp only [Act.put, List.setIfInBounds_toArray, List.set_cons_zero, List.set_cons_succ]
    refine tk 8 { dst := some 8, op := .assign (.tmp 15), type := 4, pos := "entries.go:102", after := #[{ on := 6, ground := .data }, { on := 7, ground := .chain }, { on := 0, ground := .phase }, { on := 1, ground := .phase }, { on := 2, ground := .phase }, { on := 3, ground := .phase }, { on := 4, ground := .phase }, { on := 5, ground := .phase }, { on := 6, ground := .phase }, { on := 7, ground := .phase }], guard := none } _ ?_
    try simp only [Act.put, List.setIfInBounds_toArray, List.set_cons_zero, List.set_cons_succ]
    refine wpAnyH_done (by kernel_rfl) ?_ _
    go_wp2_with fail
    refine (CL.out _ q3).mono ?_
    rintro e y4 ⟨rfl, hY4⟩
    have q4 := q3.trans (hY4.mono q3.size)
    clear r3
    have r4 := HS.out _ q4
    go_wp2_with fail
    go_ret
    exact ⟨by first | rfl | simp, HB.out.trans (q4.mono HB.out.size)⟩
  · rw [if_neg c1]
    go_enter Try.func24, Try.ntmps24
    go_upto_region 1 with (fail)
    generalize (w.alloc (.cells #[.int .i64 b, .int .i64 t, j0 j, j1 j, j2 j, j3 j, j4 j, j5 j, j6 j, j7 j, j8 j, j9 j, j10 j, .slice A n c] 30)) = w1 at *
    have HR1 := Lib.hid (HR.out.on (HB.out.mono hBs.out) (Nat.le_trans hBs.out HB.out.size))
    have CL := Lib.hid (fun w' (hb : Below w1.heap.size w1 w') => last_any ⟨b, t, j, es⟩ A n c w' HR1.out.1 HF.out)
    have CT := Lib.hid (fun w' (hb : Below w1.heap.size w1 w') => term_any ⟨b, t, j, es⟩ A n c (b + (n : Int)) w' w1.heap.size (HR1.out.below hb) hb.size hc HF.out)
    unfold lgV at CL CT
    dsimp only at CL CT
    rw [hlast] at CL
    rw [hTT] at CT
    clear hTT HT hlast
    have r0 := HS.out _ q0
    have c1b : (term == tv) = false := by simpa using c1
    have q1 := q0.drew
    refine wp_region_held_drew (S := fun wq => (wq.cell? ⟨w.heap.size, 0, none⟩ = some (.int .i64 b) ∧ wq.cell? ⟨w.heap.size, 1, none⟩ = some (.int .i64 t) ∧ wq.cell? ⟨w.heap.size, 2, none⟩ = some (j0 j) ∧ wq.cell? ⟨w.heap.size, 3, none⟩ = some (j1 j) ∧ wq.cell? ⟨w.heap.size, 4, none⟩ = some (j2 j) ∧ wq.cell? ⟨w.heap.size, 5, none⟩ = some (j3 j) ∧ wq.cell? ⟨w.heap.size, 6, none⟩ = some (j4 j) ∧ wq.cell? ⟨w.heap.size, 7, none⟩ = some (j5 j) ∧ wq.cell? ⟨w.heap.size, 8, none⟩ = some (j6 j) ∧ wq.cell? ⟨w.heap.size, 9, none⟩ = some (j7 j) ∧ wq.cell? ⟨w.heap.size, 10, none⟩ = some (j8 j) ∧ wq.cell? ⟨w.heap.size, 11, none⟩ = some (j9 j) ∧ wq.cell? ⟨w.heap.size, 12, none⟩ = some (j10 j) ∧ wq.cell? ⟨w.heap.size, 13, none⟩ = some (.slice A n c))) (by kernel_rfl) ?s_lnewer1 (fun hHeld => ?_)
    case s_lnewer1 => exact HS.out _ q1
    refine tk 0 { dst := some 10, op := .load 30 (.tmp 3), type := 30, pos := "entries.go:102", after := #[], guard := none } _ ?_
    try simp only [Act.put, List.setIfInBounds_toArray, List.set_cons_zero, List.set_cons_succ]
    refine tk 1 { dst := some 11, op := .load 30 (.tmp 3), type := 30, pos := "entries.go:102", after := #[], guard := none } _ ?_
    try simp only [Act.put, List.setIfInBounds_toArray, List.set_cons_zero, List.set_cons_succ]
    refine wpAnyH_ready (rs := [2]) (by kernel_rfl) (by simp) ?_
    refine AllReadyH.cons (o := { dst := some 12, op := .call { callee := .value (.func 17), args := #[.tmp 11], argTypes := #[30] }, type := 3, pos := "entries.go:102", after := #[{ on := 1, ground := .data }], guard := none }) rfl (fun KQ hKQ => ?_) AllReadyH.nil
    go_simp
    refine (CL.out _ q1).mono ?_
    rintro e y2 ⟨rfl, hY2⟩
    have q2 := q1.trans (hY2.mono q1.size)
    have r2 := HS.out _ q2
    go_wp2_with fail
    refine hKQ.out _ _ ?s_2 (fun hHeld2 => ?_)
    case s_2 => exact r2
    clear hKQ KQ
    try simp only [Act.put, List.setIfInBounds_toArray, List.set_cons_zero, List.set_cons_succ]
    refine wpAnyH_ready (rs := [3]) (by kernel_rfl) (by simp) ?_
    refine AllReadyH.cons (o := { dst := some 13, op := .call { callee := .value (.func 13), args := #[.tmp 10, .tmp 12], argTypes := #[30, 3] }, type := 34, pos := "entries.go:102", after := #[{ on := 0, ground := .data }, { on := 2, ground := .data }, { on := 2, ground := .chain }], guard := none }) rfl (fun KQ hKQ => ?_) AllReadyH.nil
    go_simp
    refine (CT.out _ q2).mono ?_
    rintro e y3 ⟨rfl, hY3⟩
    have q3 := q2.trans (hY3.mono q2.size)
    have r3 := HS.out _ q3
    go_wp2_with fail
    refine hKQ.out _ _ ?s_3 (fun hHeld3 => ?_)
    case s_3 => exact r3
    clear hKQ KQ
    try simp only [Act.put, List.setIfInBounds_toArray, List.set_cons_zero, List.set_cons_succ]
    refine tk 4 { dst := some 9, op := .move (.tmp 13), type := 34, pos := "entries.go:102", after := #[{ on := 3, ground := .data }], guard := none } _ ?_
    try simp only [Act.put, List.setIfInBounds_toArray, List.set_cons_zero, List.set_cons_succ]
    refine tk 5 { dst := some 14, op := .extract (.tmp 9) 0, type := 3, pos := "entries.go:102", after := #[{ on := 4, ground := .data }], guard := none } _ ?_
    try simp only [Act.put, List.setIfInBounds_toArray, List.set_cons_zero, List.set_cons_succ]
    refine tk 6 { dst := some 15, op := .extract (.tmp 9) 1, type := 4, pos := "entries.go:102", after := #[{ on := 4, ground := .data }, { on := 7, ground := .gcOnly Go.Departure.lateStores }], guard := none } _ ?_
    try simp only [Act.put, List.setIfInBounds_toArray, List.set_cons_zero, List.set_cons_succ]
    refine tk 7 { dst := some 7, op := .assign (.tmp 14), type := 3, pos := "entries.go:102", after := #[{ on := 5, ground := .data }, { on := 3, ground := .chain }, { on := 0, ground := .phase }, { on := 1, ground := .phase }, { on := 2, ground := .phase }, { on := 3, ground := .phase }, { on := 4, ground := .phase }, { on := 5, ground := .phase }, { on := 6, ground := .textOnly Go.Departure.lateStores }], guard := none } _ ?_
    try simp only [Act.put, List.setIfInBounds_toArray, List.set_cons_zero, List.set_cons_succ]
    refine tk 8 { dst := some 8, op := .assign (.tmp 15), type := 4, pos := "entries.go:102", after := #[{ on := 6, ground := .data }, { on := 7, ground := .chain }, { on := 0, ground := .phase }, { on := 1, ground := .phase }, { on := 2, ground := .phase }, { on := 3, ground := .phase }, { on := 4, ground := .phase }, { on := 5, ground := .phase }, { on := 6, ground := .phase }, { on := 7, ground := .phase }], guard := none } _ ?_
    try simp only [Act.put, List.setIfInBounds_toArray, List.set_cons_zero, List.set_cons_succ]
    refine wpAnyH_done (by kernel_rfl) ?_ _
    go_wp2_with fail
    go_ret
    exact ⟨by first | rfl | simp, HB.out.trans (q3.mono HB.out.size)⟩
end Go.Proofs.Yteadkgjikaikjaa.enti
