/- What the statements' newer comes to. Conditions: the logs' numbers stay far from the ends of an int. -/
import Derived.Test.YteadkgjikaikjaaEntG
import Derived.Test.YteadkgjikaikjaaEntC
import Derived.Test.YteadkgjikaikjaaKitLg
import Derived.Test.YteadkgjikaikjaaTk
import Derived.Deep.RegionHeld3
import Derived.Deep.Cut
import Derived.Lib.Hide
namespace Go.Proofs.Yteadkgjikaikjaa.law12
open Go Go.RowKit Go.Proofs.Yteadkgjikaikjaa.kit Go.Proofs.Yteadkgjikaikjaa.nums Go.Proofs.Yteadkgjikaikjaa.cf Go.Proofs.Yteadkgjikaikjaa.lg
set_option linter.unusedVariables false
set_option maxHeartbeats 2000000 in
theorem newer_any (L M : LgL) (A : Option Addr) (n c : Nat) (A2 : Option Addr) (n2 c2 : Nat) (w : World) (B B2 : Nat) (hR : RdE w B A n L.es) (hB : B ≤ w.heap.size) (hR2 : RdE w B2 A2 n2 M.es) (hB2 : B2 ≤ w.heap.size) (hc : n ≤ c) (hc2 : n2 ≤ c2) (hf : Fit L) (hf2 : Fit M) : Calls Try.prog 36 #[lgV L (.slice A n c), lgV M (.slice A2 n2 c2)] w fun e w' => e = .returned (.bool (newerF M (lastF L) (termF L (lastF L)).1)) ∧ Below w.heap.size w w' := by
  have HR := Lib.hid hR
  have HR2 := Lib.hid hR2
  have hBs := Lib.hid hB
  have hBt := Lib.hid hB2
  have HF := Lib.hid hf
  have HF2 := Lib.hid hf2
  clear hR hR2 hB hB2 hf hf2
  unfold lgV
  have k0 : Blk 30 (w.alloc (.cells #[.int .i64 L.b, .int .i64 L.t, j0 L.j, j1 L.j, j2 L.j, j3 L.j, j4 L.j, j5 L.j, j6 L.j, j7 L.j, j8 L.j, j9 L.j, j10 L.j, .slice A n c] 30)) w.heap.size [.int .i64 L.b, .int .i64 L.t, j0 L.j, j1 L.j, j2 L.j, j3 L.j, j4 L.j, j5 L.j, j6 L.j, j7 L.j, j8 L.j, j9 L.j, j10 L.j, .slice A n c] := (heap_alloc_new w (.cells #[.int .i64 L.b, .int .i64 L.t, j0 L.j, j1 L.j, j2 L.j, j3 L.j, j4 L.j, j5 L.j, j6 L.j, j7 L.j, j8 L.j, j9 L.j, j10 L.j, .slice A n c] 30))
  replace k0 : Blk 30 ((w.alloc (.cells #[.int .i64 L.b, .int .i64 L.t, j0 L.j, j1 L.j, j2 L.j, j3 L.j, j4 L.j, j5 L.j, j6 L.j, j7 L.j, j8 L.j, j9 L.j, j10 L.j, .slice A n c] 30)).alloc (.cells #[.int .i64 M.b, .int .i64 M.t, j0 M.j, j1 M.j, j2 M.j, j3 M.j, j4 M.j, j5 M.j, j6 M.j, j7 M.j, j8 M.j, j9 M.j, j10 M.j, .slice A2 n2 c2] 30)) w.heap.size [.int .i64 L.b, .int .i64 L.t, j0 L.j, j1 L.j, j2 L.j, j3 L.j, j4 L.j, j5 L.j, j6 L.j, j7 L.j, j8 L.j, j9 L.j, j10 L.j, .slice A n c] := k0.alloc _
  have k1 : Blk 30 ((w.alloc (.cells #[.int .i64 L.b, .int .i64 L.t, j0 L.j, j1 L.j, j2 L.j, j3 L.j, j4 L.j, j5 L.j, j6 L.j, j7 L.j, j8 L.j, j9 L.j, j10 L.j, .slice A n c] 30)).alloc (.cells #[.int .i64 M.b, .int .i64 M.t, j0 M.j, j1 M.j, j2 M.j, j3 M.j, j4 M.j, j5 M.j, j6 M.j, j7 M.j, j8 M.j, j9 M.j, j10 M.j, .slice A2 n2 c2] 30)) (w.heap.size + 1) [.int .i64 M.b, .int .i64 M.t, j0 M.j, j1 M.j, j2 M.j, j3 M.j, j4 M.j, j5 M.j, j6 M.j, j7 M.j, j8 M.j, j9 M.j, j10 M.j, .slice A2 n2 c2] := (by have h := heap_alloc_new (w.alloc (.cells #[.int .i64 L.b, .int .i64 L.t, j0 L.j, j1 L.j, j2 L.j, j3 L.j, j4 L.j, j5 L.j, j6 L.j, j7 L.j, j8 L.j, j9 L.j, j10 L.j, .slice A n c] 30)) (.cells #[.int .i64 M.b, .int .i64 M.t, j0 M.j, j1 M.j, j2 M.j, j3 M.j, j4 M.j, j5 M.j, j6 M.j, j7 M.j, j8 M.j, j9 M.j, j10 M.j, .slice A2 n2 c2] 30); rwa [show (w.alloc (.cells #[.int .i64 L.b, .int .i64 L.t, j0 L.j, j1 L.j, j2 L.j, j3 L.j, j4 L.j, j5 L.j, j6 L.j, j7 L.j, j8 L.j, j9 L.j, j10 L.j, .slice A n c] 30)).heap.size = w.heap.size + 1 by simp] at h)
  have hB : Below w.heap.size w ((w.alloc (.cells #[.int .i64 L.b, .int .i64 L.t, j0 L.j, j1 L.j, j2 L.j, j3 L.j, j4 L.j, j5 L.j, j6 L.j, j7 L.j, j8 L.j, j9 L.j, j10 L.j, .slice A n c] 30)).alloc (.cells #[.int .i64 M.b, .int .i64 M.t, j0 M.j, j1 M.j, j2 M.j, j3 M.j, j4 M.j, j5 M.j, j6 M.j, j7 M.j, j8 M.j, j9 M.j, j10 M.j, .slice A2 n2 c2] 30)) := (((Below.refl w.heap.size w).alloc (by first | exact Nat.le_refl _ | (simp; done) | (simp; omega)) (.cells #[.int .i64 L.b, .int .i64 L.t, j0 L.j, j1 L.j, j2 L.j, j3 L.j, j4 L.j, j5 L.j, j6 L.j, j7 L.j, j8 L.j, j9 L.j, j10 L.j, .slice A n c] 30)).alloc (by first | exact Nat.le_refl _ | (simp; done) | (simp; omega)) (.cells #[.int .i64 M.b, .int .i64 M.t, j0 M.j, j1 M.j, j2 M.j, j3 M.j, j4 M.j, j5 M.j, j6 M.j, j7 M.j, j8 M.j, j9 M.j, j10 M.j, .slice A2 n2 c2] 30))
  have HB := Lib.hid hB
  have HS : Hid (∀ wq, Below ((w.alloc (.cells #[.int .i64 L.b, .int .i64 L.t, j0 L.j, j1 L.j, j2 L.j, j3 L.j, j4 L.j, j5 L.j, j6 L.j, j7 L.j, j8 L.j, j9 L.j, j10 L.j, .slice A n c] 30)).alloc (.cells #[.int .i64 M.b, .int .i64 M.t, j0 M.j, j1 M.j, j2 M.j, j3 M.j, j4 M.j, j5 M.j, j6 M.j, j7 M.j, j8 M.j, j9 M.j, j10 M.j, .slice A2 n2 c2] 30)).heap.size ((w.alloc (.cells #[.int .i64 L.b, .int .i64 L.t, j0 L.j, j1 L.j, j2 L.j, j3 L.j, j4 L.j, j5 L.j, j6 L.j, j7 L.j, j8 L.j, j9 L.j, j10 L.j, .slice A n c] 30)).alloc (.cells #[.int .i64 M.b, .int .i64 M.t, j0 M.j, j1 M.j, j2 M.j, j3 M.j, j4 M.j, j5 M.j, j6 M.j, j7 M.j, j8 M.j, j9 M.j, j10 M.j, .slice A2 n2 c2] 30)) wq → (wq.cell? ⟨w.heap.size, 0, none⟩ = some (.int .i64 L.b) ∧ wq.cell? ⟨w.heap.size, 1, none⟩ = some (.int .i64 L.t) ∧ wq.cell? ⟨w.heap.size, 2, none⟩ = some (j0 L.j) ∧ wq.cell? ⟨w.heap.size, 3, none⟩ = some (j1 L.j) ∧ wq.cell? ⟨w.heap.size, 4, none⟩ = some (j2 L.j) ∧ wq.cell? ⟨w.heap.size, 5, none⟩ = some (j3 L.j) ∧ wq.cell? ⟨w.heap.size, 6, none⟩ = some (j4 L.j) ∧ wq.cell? ⟨w.heap.size, 7, none⟩ = some (j5 L.j) ∧ wq.cell? ⟨w.heap.size, 8, none⟩ = some (j6 L.j) ∧ wq.cell? ⟨w.heap.size, 9, none⟩ = some (j7 L.j) ∧ wq.cell? ⟨w.heap.size, 10, none⟩ = some (j8 L.j) ∧ wq.cell? ⟨w.heap.size, 11, none⟩ = some (j9 L.j) ∧ wq.cell? ⟨w.heap.size, 12, none⟩ = some (j10 L.j) ∧ wq.cell? ⟨w.heap.size, 13, none⟩ = some (.slice A n c)) ∧ (wq.cell? ⟨(w.heap.size + 1), 0, none⟩ = some (.int .i64 M.b) ∧ wq.cell? ⟨(w.heap.size + 1), 1, none⟩ = some (.int .i64 M.t) ∧ wq.cell? ⟨(w.heap.size + 1), 2, none⟩ = some (j0 M.j) ∧ wq.cell? ⟨(w.heap.size + 1), 3, none⟩ = some (j1 M.j) ∧ wq.cell? ⟨(w.heap.size + 1), 4, none⟩ = some (j2 M.j) ∧ wq.cell? ⟨(w.heap.size + 1), 5, none⟩ = some (j3 M.j) ∧ wq.cell? ⟨(w.heap.size + 1), 6, none⟩ = some (j4 M.j) ∧ wq.cell? ⟨(w.heap.size + 1), 7, none⟩ = some (j5 M.j) ∧ wq.cell? ⟨(w.heap.size + 1), 8, none⟩ = some (j6 M.j) ∧ wq.cell? ⟨(w.heap.size + 1), 9, none⟩ = some (j7 M.j) ∧ wq.cell? ⟨(w.heap.size + 1), 10, none⟩ = some (j8 M.j) ∧ wq.cell? ⟨(w.heap.size + 1), 11, none⟩ = some (j9 M.j) ∧ wq.cell? ⟨(w.heap.size + 1), 12, none⟩ = some (j10 M.j) ∧ wq.cell? ⟨(w.heap.size + 1), 13, none⟩ = some (.slice A2 n2 c2))) := fun wq hq => ⟨blk14 (k0.below hq k0.lt), blk14 (k1.below hq k1.lt)⟩
  have q0 := Below.refl ((w.alloc (.cells #[.int .i64 L.b, .int .i64 L.t, j0 L.j, j1 L.j, j2 L.j, j3 L.j, j4 L.j, j5 L.j, j6 L.j, j7 L.j, j8 L.j, j9 L.j, j10 L.j, .slice A n c] 30)).alloc (.cells #[.int .i64 M.b, .int .i64 M.t, j0 M.j, j1 M.j, j2 M.j, j3 M.j, j4 M.j, j5 M.j, j6 M.j, j7 M.j, j8 M.j, j9 M.j, j10 M.j, .slice A2 n2 c2] 30)).heap.size ((w.alloc (.cells #[.int .i64 L.b, .int .i64 L.t, j0 L.j, j1 L.j, j2 L.j, j3 L.j, j4 L.j, j5 L.j, j6 L.j, j7 L.j, j8 L.j, j9 L.j, j10 L.j, .slice A n c] 30)).alloc (.cells #[.int .i64 M.b, .int .i64 M.t, j0 M.j, j1 M.j, j2 M.j, j3 M.j, j4 M.j, j5 M.j, j6 M.j, j7 M.j, j8 M.j, j9 M.j, j10 M.j, .slice A2 n2 c2] 30))
  have K0 := Lib.hid k0
  have K1 := Lib.hid k1
  clear hB k0 k1
  go_enter Try.func36, Try.ntmps36
  go_upto_region 1 with (fail)
  generalize ((w.alloc (.cells #[.int .i64 L.b, .int .i64 L.t, j0 L.j, j1 L.j, j2 L.j, j3 L.j, j4 L.j, j5 L.j, j6 L.j, j7 L.j, j8 L.j, j9 L.j, j10 L.j, .slice A n c] 30)).alloc (.cells #[.int .i64 M.b, .int .i64 M.t, j0 M.j, j1 M.j, j2 M.j, j3 M.j, j4 M.j, j5 M.j, j6 M.j, j7 M.j, j8 M.j, j9 M.j, j10 M.j, .slice A2 n2 c2] 30)) = w1 at *
  have HR1 := Lib.hid (HR.out.on (HB.out.mono hBs.out) (Nat.le_trans hBs.out HB.out.size))
  have HR3 := Lib.hid (HR2.out.on (HB.out.mono hBt.out) (Nat.le_trans hBt.out HB.out.size))
  have CL := Lib.hid (fun w' (hb : Below w1.heap.size w1 w') => enti.last_any L A n c w' HR1.out.1 HF.out)
  have CT := Lib.hid (fun w' (hb : Below w1.heap.size w1 w') => enti.term_any L A n c (lastF L) w' w1.heap.size (HR1.out.below hb) hb.size hc HF.out)
  have CN := Lib.hid (fun w' (hb : Below w1.heap.size w1 w') => enti.newer_any M A2 n2 c2 (lastF L) (termF L (lastF L)).1 w' w1.heap.size (HR3.out.below hb) hb.size hc2 HF2.out)
  unfold lgV at CL CT CN
  have r0 := HS.out _ q0
  have q1 := q0.drew
  refine wp_region_held_drew (S := fun wq => (wq.cell? ⟨w.heap.size, 0, none⟩ = some (.int .i64 L.b) ∧ wq.cell? ⟨w.heap.size, 1, none⟩ = some (.int .i64 L.t) ∧ wq.cell? ⟨w.heap.size, 2, none⟩ = some (j0 L.j) ∧ wq.cell? ⟨w.heap.size, 3, none⟩ = some (j1 L.j) ∧ wq.cell? ⟨w.heap.size, 4, none⟩ = some (j2 L.j) ∧ wq.cell? ⟨w.heap.size, 5, none⟩ = some (j3 L.j) ∧ wq.cell? ⟨w.heap.size, 6, none⟩ = some (j4 L.j) ∧ wq.cell? ⟨w.heap.size, 7, none⟩ = some (j5 L.j) ∧ wq.cell? ⟨w.heap.size, 8, none⟩ = some (j6 L.j) ∧ wq.cell? ⟨w.heap.size, 9, none⟩ = some (j7 L.j) ∧ wq.cell? ⟨w.heap.size, 10, none⟩ = some (j8 L.j) ∧ wq.cell? ⟨w.heap.size, 11, none⟩ = some (j9 L.j) ∧ wq.cell? ⟨w.heap.size, 12, none⟩ = some (j10 L.j) ∧ wq.cell? ⟨w.heap.size, 13, none⟩ = some (.slice A n c)) ∧ (wq.cell? ⟨(w.heap.size + 1), 0, none⟩ = some (.int .i64 M.b) ∧ wq.cell? ⟨(w.heap.size + 1), 1, none⟩ = some (.int .i64 M.t) ∧ wq.cell? ⟨(w.heap.size + 1), 2, none⟩ = some (j0 M.j) ∧ wq.cell? ⟨(w.heap.size + 1), 3, none⟩ = some (j1 M.j) ∧ wq.cell? ⟨(w.heap.size + 1), 4, none⟩ = some (j2 M.j) ∧ wq.cell? ⟨(w.heap.size + 1), 5, none⟩ = some (j3 M.j) ∧ wq.cell? ⟨(w.heap.size + 1), 6, none⟩ = some (j4 M.j) ∧ wq.cell? ⟨(w.heap.size + 1), 7, none⟩ = some (j5 M.j) ∧ wq.cell? ⟨(w.heap.size + 1), 8, none⟩ = some (j6 M.j) ∧ wq.cell? ⟨(w.heap.size + 1), 9, none⟩ = some (j7 M.j) ∧ wq.cell? ⟨(w.heap.size + 1), 10, none⟩ = some (j8 M.j) ∧ wq.cell? ⟨(w.heap.size + 1), 11, none⟩ = some (j9 M.j) ∧ wq.cell? ⟨(w.heap.size + 1), 12, none⟩ = some (j10 M.j) ∧ wq.cell? ⟨(w.heap.size + 1), 13, none⟩ = some (.slice A2 n2 c2))) (by kernel_rfl) ?s_lwn1 (fun hHeld => ?_)
  case s_lwn1 => exact HS.out _ q1
  refine tk 0 { dst := some 8, op := .load 30 (.tmp 2), type := 30, pos := "more.go:11", after := #[], guard := none } _ ?_
  try simp only [Act.put, List.setIfInBounds_toArray, List.set_cons_zero, List.set_cons_succ]
  refine tk 1 { dst := some 9, op := .load 30 (.tmp 2), type := 30, pos := "more.go:11", after := #[], guard := none } _ ?_
  try simp only [Act.put, List.setIfInBounds_toArray, List.set_cons_zero, List.set_cons_succ]
  refine wpAnyH_ready (rs := [2]) (by kernel_rfl) (by simp) ?_
  refine AllReadyH.cons (o := { dst := some 10, op := .call { callee := .value (.func 17), args := #[.tmp 9], argTypes := #[30] }, type := 3, pos := "more.go:11", after := #[{ on := 1, ground := .data }], guard := none }) rfl (fun KQ hKQ => ?_) AllReadyH.nil
  go_simp
  refine (CL.out _ q1).mono ?_
  rintro e y2 ⟨rfl, hY2⟩
  have q2 := q1.trans (hY2.mono q1.size)
  have r2 := HS.out _ q2
  go_wp2_with fail
  refine hKQ.out _ _ ?s_2 (fun hHeld2 => ?_)
  case s_2 => exact r2
  clear hKQ KQ
  try simp only [Act.put, List.setIfInBounds_toArray, List.set_cons_zero, List.set_cons_succ]
  refine wpAnyH_ready (rs := [3]) (by kernel_rfl) (by simp) ?_
  refine AllReadyH.cons (o := { dst := some 11, op := .call { callee := .value (.func 13), args := #[.tmp 8, .tmp 10], argTypes := #[30, 3] }, type := 34, pos := "more.go:11", after := #[{ on := 0, ground := .data }, { on := 2, ground := .data }, { on := 2, ground := .chain }], guard := none }) rfl (fun KQ hKQ => ?_) AllReadyH.nil
  go_simp
  refine (CT.out _ q2).mono ?_
  rintro e y3 ⟨rfl, hY3⟩
  have q3 := q2.trans (hY3.mono q2.size)
  have r3 := HS.out _ q3
  go_wp2_with fail
  refine hKQ.out _ _ ?s_3 (fun hHeld3 => ?_)
  case s_3 => exact r3
  clear hKQ KQ
  try simp only [Act.put, List.setIfInBounds_toArray, List.set_cons_zero, List.set_cons_succ]
  refine tk 4 { dst := some 7, op := .move (.tmp 11), type := 34, pos := "more.go:11", after := #[{ on := 3, ground := .data }], guard := none } _ ?_
  try simp only [Act.put, List.setIfInBounds_toArray, List.set_cons_zero, List.set_cons_succ]
  refine tk 5 { dst := some 12, op := .extract (.tmp 7) 0, type := 3, pos := "more.go:11", after := #[{ on := 4, ground := .data }], guard := none } _ ?_
  try simp only [Act.put, List.setIfInBounds_toArray, List.set_cons_zero, List.set_cons_succ]
  refine tk 6 { dst := some 13, op := .extract (.tmp 7) 1, type := 4, pos := "more.go:11", after := #[{ on := 4, ground := .data }, { on := 7, ground := .gcOnly Go.Departure.lateStores }], guard := none } _ ?_
  try simp only [Act.put, List.setIfInBounds_toArray, List.set_cons_zero, List.set_cons_succ]
  refine tk 7 { dst := some 5, op := .assign (.tmp 12), type := 3, pos := "more.go:11", after := #[{ on := 5, ground := .data }, { on := 3, ground := .chain }, { on := 0, ground := .phase }, { on := 1, ground := .phase }, { on := 2, ground := .phase }, { on := 3, ground := .phase }, { on := 4, ground := .phase }, { on := 5, ground := .phase }, { on := 6, ground := .textOnly Go.Departure.lateStores }], guard := none } _ ?_
  try simp only [Act.put, List.setIfInBounds_toArray, List.set_cons_zero, List.set_cons_succ]
  refine tk 8 { dst := some 6, op := .assign (.tmp 13), type := 4, pos := "more.go:11", after := #[{ on := 6, ground := .data }, { on := 7, ground := .chain }, { on := 0, ground := .phase }, { on := 1, ground := .phase }, { on := 2, ground := .phase }, { on := 3, ground := .phase }, { on := 4, ground := .phase }, { on := 5, ground := .phase }, { on := 6, ground := .phase }, { on := 7, ground := .phase }], guard := none } _ ?_
  try simp only [Act.put, List.setIfInBounds_toArray, List.set_cons_zero, List.set_cons_succ]
  refine wpAnyH_done (by kernel_rfl) ?_ _
  go_upto_region 2 with (fail)
  have q4 := q3.drew
  refine wp_region_held_drew (S := fun wq => (wq.cell? ⟨w.heap.size, 0, none⟩ = some (.int .i64 L.b) ∧ wq.cell? ⟨w.heap.size, 1, none⟩ = some (.int .i64 L.t) ∧ wq.cell? ⟨w.heap.size, 2, none⟩ = some (j0 L.j) ∧ wq.cell? ⟨w.heap.size, 3, none⟩ = some (j1 L.j) ∧ wq.cell? ⟨w.heap.size, 4, none⟩ = some (j2 L.j) ∧ wq.cell? ⟨w.heap.size, 5, none⟩ = some (j3 L.j) ∧ wq.cell? ⟨w.heap.size, 6, none⟩ = some (j4 L.j) ∧ wq.cell? ⟨w.heap.size, 7, none⟩ = some (j5 L.j) ∧ wq.cell? ⟨w.heap.size, 8, none⟩ = some (j6 L.j) ∧ wq.cell? ⟨w.heap.size, 9, none⟩ = some (j7 L.j) ∧ wq.cell? ⟨w.heap.size, 10, none⟩ = some (j8 L.j) ∧ wq.cell? ⟨w.heap.size, 11, none⟩ = some (j9 L.j) ∧ wq.cell? ⟨w.heap.size, 12, none⟩ = some (j10 L.j) ∧ wq.cell? ⟨w.heap.size, 13, none⟩ = some (.slice A n c)) ∧ (wq.cell? ⟨(w.heap.size + 1), 0, none⟩ = some (.int .i64 M.b) ∧ wq.cell? ⟨(w.heap.size + 1), 1, none⟩ = some (.int .i64 M.t) ∧ wq.cell? ⟨(w.heap.size + 1), 2, none⟩ = some (j0 M.j) ∧ wq.cell? ⟨(w.heap.size + 1), 3, none⟩ = some (j1 M.j) ∧ wq.cell? ⟨(w.heap.size + 1), 4, none⟩ = some (j2 M.j) ∧ wq.cell? ⟨(w.heap.size + 1), 5, none⟩ = some (j3 M.j) ∧ wq.cell? ⟨(w.heap.size + 1), 6, none⟩ = some (j4 M.j) ∧ wq.cell? ⟨(w.heap.size + 1), 7, none⟩ = some (j5 M.j) ∧ wq.cell? ⟨(w.heap.size + 1), 8, none⟩ = some (j6 M.j) ∧ wq.cell? ⟨(w.heap.size + 1), 9, none⟩ = some (j7 M.j) ∧ wq.cell? ⟨(w.heap.size + 1), 10, none⟩ = some (j8 M.j) ∧ wq.cell? ⟨(w.heap.size + 1), 11, none⟩ = some (j9 M.j) ∧ wq.cell? ⟨(w.heap.size + 1), 12, none⟩ = some (j10 M.j) ∧ wq.cell? ⟨(w.heap.size + 1), 13, none⟩ = some (.slice A2 n2 c2))) (by kernel_rfl) ?s_lwn2 (fun hHeld => ?_)
  case s_lwn2 => exact HS.out _ q4
  refine tk 0 { dst := some 14, op := .load 30 (.tmp 3), type := 30, pos := "more.go:12", after := #[], guard := none } _ ?_
  try simp only [Act.put, List.setIfInBounds_toArray, List.set_cons_zero, List.set_cons_succ]
  refine tk 1 { dst := some 15, op := .load 30 (.tmp 2), type := 30, pos := "more.go:12", after := #[], guard := none } _ ?_
  try simp only [Act.put, List.setIfInBounds_toArray, List.set_cons_zero, List.set_cons_succ]
  refine tk 3 { dst := some 17, op := .move (.tmp 5), type := 3, pos := "more.go:12", after := #[], guard := none } _ ?_
  try simp only [Act.put, List.setIfInBounds_toArray, List.set_cons_zero, List.set_cons_succ]
  refine wpAnyH_ready (rs := [2]) (by kernel_rfl) (by simp) ?_
  refine AllReadyH.cons (o := { dst := some 16, op := .call { callee := .value (.func 17), args := #[.tmp 15], argTypes := #[30] }, type := 3, pos := "more.go:12", after := #[{ on := 1, ground := .data }], guard := none }) rfl (fun KQ hKQ => ?_) AllReadyH.nil
  go_simp
  refine (CL.out _ q4).mono ?_
  rintro e y5 ⟨rfl, hY5⟩
  have q5 := q4.trans (hY5.mono q4.size)
  have r5 := HS.out _ q5
  go_wp2_with fail
  refine hKQ.out _ _ ?s_2 (fun hHeld2 => ?_)
  case s_2 => exact r5
  clear hKQ KQ
  try simp only [Act.put, List.setIfInBounds_toArray, List.set_cons_zero, List.set_cons_succ]
  refine wpAnyH_ready (rs := [4]) (by kernel_rfl) (by simp) ?_
  refine AllReadyH.cons (o := { dst := some 18, op := .call { callee := .value (.func 24), args := #[.tmp 14, .tmp 16, .tmp 17], argTypes := #[30, 3, 3] }, type := 4, pos := "more.go:12", after := #[{ on := 0, ground := .data }, { on := 2, ground := .data }, { on := 3, ground := .data }, { on := 2, ground := .chain }], guard := none }) rfl (fun KQ hKQ => ?_) AllReadyH.nil
  go_simp
  refine (CN.out _ q5).mono ?_
  rintro e y6 ⟨rfl, hY6⟩
  have q6 := q5.trans (hY6.mono q5.size)
  have r6 := HS.out _ q6
  go_wp2_with fail
  refine hKQ.out _ _ ?s_4 (fun hHeld4 => ?_)
  case s_4 => exact r6
  clear hKQ KQ
  try simp only [Act.put, List.setIfInBounds_toArray, List.set_cons_zero, List.set_cons_succ]
  refine tk 5 { dst := some 4, op := .assign (.tmp 18), type := 4, pos := "more.go:12", after := #[{ on := 4, ground := .data }, { on := 4, ground := .chain }, { on := 0, ground := .phase }, { on := 1, ground := .phase }, { on := 2, ground := .phase }, { on := 3, ground := .phase }, { on := 4, ground := .phase }], guard := none } _ ?_
  try simp only [Act.put, List.setIfInBounds_toArray, List.set_cons_zero, List.set_cons_succ]
  refine wpAnyH_done (by kernel_rfl) ?_ _
  go_wp2_with fail
  go_ret
  exact ⟨rfl, HB.out.trans (q6.mono HB.out.size)⟩
end Go.Proofs.Yteadkgjikaikjaa.law12
