/- EntriesOrder's walk: of any two logs one is at least as new as the other. Conditions: none. -/
import Derived.Test.YteadkgjikaikjaaLwM12
import Derived.Test.YteadkgjikaikjaaLwB12
import Derived.Test.YteadkgjikaikjaaLwN12
import Derived.Test.YteadkgjikaikjaaVr12
import Derived.Test.YteadkgjikaikjaaKitLg
import Derived.Test.YteadkgjikaikjaaTk
import Derived.Deep.RegionHeld3
import Derived.Deep.Cut
import Derived.Lib.Hide
namespace Go.Proofs.Yteadkgjikaikjaa.law12
open Go Go.RowKit Go.Proofs.Yteadkgjikaikjaa.kit Go.Proofs.Yteadkgjikaikjaa.nums Go.Proofs.Yteadkgjikaikjaa.cf Go.Proofs.Yteadkgjikaikjaa.lg
set_option linter.unusedVariables false
theorem order_or {ta tb la lb : Int} {p q : Bool} (hp : p = if ta = tb then decide (lb ≤ la) else decide (tb < ta)) (hq : q = if tb = ta then decide (la ≤ lb) else decide (ta < tb)) : (p || q) = true := by
  subst hp hq
  by_cases e : ta = tb
  · rw [if_pos e, if_pos e.symm]; simp; omega
  · rw [if_neg e, if_neg (Ne.symm e)]; simp; omega
theorem order_same {ta tb la lb : Int} {p q : Bool} (hp : p = if ta = tb then decide (lb ≤ la) else decide (tb < ta)) (hq : q = if tb = ta then decide (la ≤ lb) else decide (ta < tb)) : (p && q) = ((ta == tb) && (la == lb)) := by
  subst hp hq
  rw [Bool.eq_iff_iff]
  by_cases e : ta = tb
  · rw [if_pos e, if_pos e.symm]; simp; omega
  · rw [if_neg e, if_neg (Ne.symm e)]; simp; omega
theorem order_on {ta tb tc la lb lc : Int} {p r s : Bool} (hp : p = if ta = tb then decide (lb ≤ la) else decide (tb < ta)) (hr : r = if tb = tc then decide (lc ≤ lb) else decide (tc < tb)) (hs : s = if ta = tc then decide (lc ≤ la) else decide (tc < ta)) : p = true → r = true → s = true := by
  intro h1 h2
  rw [hp] at h1
  rw [hr] at h2
  rw [hs]
  clear hp hr hs
  split at h1 <;> split at h2 <;> split <;> simp only [decide_eq_true_eq] at * <;> omega
set_option maxHeartbeats 6000000 in
theorem order_walk (A : Option Addr) (n c : Nat) (l : List Int) (A2 : Option Addr) (n2 c2 : Nat) (l2 : List Int) (A3 : Option Addr) (n3 c3 : Nat) (l3 : List Int) (w : World) (hR : Rd w w.heap.size A n l) (hY : Byt l) (hR2 : Rd w w.heap.size A2 n2 l2) (hY2 : Byt l2) (hR3 : Rd w w.heap.size A3 n3 l3) (hY3 : Byt l3) : Calls Try.prog 7 #[.slice A n c, .slice A2 n2 c2, .slice A3 n3 c3] w fun e w' => e = .returned (.bool true) ∧ Below w.heap.size w w' := by
  have HR := Lib.hid hR
  have HR2 := Lib.hid hR2
  have HR3 := Lib.hid hR3
  have HY := Lib.hid hY
  have HY2 := Lib.hid hY2
  have HY3 := Lib.hid hY3
  clear hR hR2 hR3 hY hY2 hY3
  by_cases u1 : n ≤ 40
  rotate_left
  · have k1 : (40 : Int) < (n : Int) := by omega
    clear u1
    go_enter Try.func7, Try.ntmps7
    go_wp2_with fail
    refine (begun_any w).mono ?_
    rintro e y0 ⟨rfl, hY0⟩
    go_wp2_with fail
    go_ret
    exact ⟨rfl, hY0⟩
  by_cases u2 : n2 ≤ 40
  rotate_left
  · have k1 : ¬ ((40 : Int) < (n : Int)) := by omega
    have k2 : (40 : Int) < (n2 : Int) := by omega
    clear u1 u2
    go_enter Try.func7, Try.ntmps7
    go_wp2_with fail
    refine (begun_any w).mono ?_
    rintro e y0 ⟨rfl, hY0⟩
    go_wp2_with fail
    go_ret
    exact ⟨rfl, hY0⟩
  by_cases u3 : n3 ≤ 40
  rotate_left
  · have k1 : ¬ ((40 : Int) < (n : Int)) := by omega
    have k2 : ¬ ((40 : Int) < (n2 : Int)) := by omega
    have k3 : (40 : Int) < (n3 : Int) := by omega
    clear u1 u2 u3
    go_enter Try.func7, Try.ntmps7
    go_wp2_with fail
    refine (begun_any w).mono ?_
    rintro e y0 ⟨rfl, hY0⟩
    go_wp2_with fail
    go_ret
    exact ⟨rfl, hY0⟩
  have k1 : ¬ ((40 : Int) < (n : Int)) := by omega
  have k2 : ¬ ((40 : Int) < (n2 : Int)) := by omega
  have k3 : ¬ ((40 : Int) < (n3 : Int)) := by omega
  go_enter Try.func7, Try.ntmps7
  go_wp2_with fail
  refine (begun_any w).mono ?_
  rintro e y0 ⟨rfl, hY0⟩
  have HB := hY0
  go_wp2_with fail
  have RB := HR.out.on HB HB.size
  refine (made_any A n c l 0 0 y0 RB HY.out (by omega) (by omega) (by omega)).mono ?_
  rintro e y1 ⟨A11, c11, rfl, hO1, hYm⟩
  replace HB := HB.trans (hYm.mono HB.size)
  clear hYm
  clear RB
  have R1 := hO1.cap.2.2.2
  have c11h := Lib.hid hO1.cap.2.1
  clear hO1
  go_wp2_with fail
  have RB := HR2.out.on HB HB.size
  refine (made_any A2 n2 c2 l2 0 0 y1 RB HY2.out (by omega) (by omega) (by omega)).mono ?_
  rintro e y2 ⟨A12, c12, rfl, hO2, hYm⟩
  replace R1 := R1.on hYm hYm.size
  replace HB := HB.trans (hYm.mono HB.size)
  clear hYm
  clear RB
  have R2 := hO2.cap.2.2.2
  have c12h := Lib.hid hO2.cap.2.1
  clear hO2
  go_wp2_with fail
  have RB := HR3.out.on HB HB.size
  refine (made_any A3 n3 c3 l3 0 0 y2 RB HY3.out (by omega) (by omega) (by omega)).mono ?_
  rintro e y3 ⟨A13, c13, rfl, hO3, hYm⟩
  replace R1 := R1.on hYm hYm.size
  replace R2 := R2.on hYm hYm.size
  replace HB := HB.trans (hYm.mono HB.size)
  clear hYm
  clear RB
  have R3 := hO3.cap.2.2.2
  have c13h := Lib.hid hO3.cap.2.1
  clear hO3
  have F1 := Lib.hid (fit_may (made_may (b := 0) (t := 0) (l := l) (by omega) (by omega) (by rw [HR.out.1]; omega)) (by show (madeE _ l).length ≤ _; rw [madeE_length, HR.out.1]; omega))
  have F2 := Lib.hid (fit_may (made_may (b := 0) (t := 0) (l := l2) (by omega) (by omega) (by rw [HR2.out.1]; omega)) (by show (madeE _ l2).length ≤ _; rw [madeE_length, HR2.out.1]; omega))
  have F3 := Lib.hid (fit_may (made_may (b := 0) (t := 0) (l := l3) (by omega) (by omega) (by rw [HR3.out.1]; omega)) (by show (madeE _ l3).length ≤ _; rw [madeE_length, HR3.out.1]; omega))
  generalize madeL 0 0 l = L1 at *
  generalize madeL 0 0 l2 = L2 at *
  generalize madeL 0 0 l3 = L3 at *
  clear HR HR2 HR3 HY HY2 HY3 k1 k2 k3 u1 u2 u3
  have t4 := Below.refl y3.heap.size y3
  go_wp2_with (refine kit.al_L rfl rfl ?_)
  intro x5 zkA e5 s5
  have lekA := t4.size
  replace t4 := t4.trans (e5.mono t4.size)
  go_wp2_with (refine kit.al_L rfl rfl ?_)
  intro x6 zkB e6 s6
  replace zkA := zkA.below e6 zkA.lt
  have lekB := t4.size
  replace t4 := t4.trans (e6.mono t4.size)
  go_wp2_with (refine kit.al_L rfl rfl ?_)
  intro x7 zkC e7 s7
  replace zkA := zkA.below e7 zkA.lt
  replace zkB := zkB.below e7 zkB.lt
  have lekC := t4.size
  replace t4 := t4.trans (e7.mono t4.size)
  have nekAkB : y3.heap.size ≠ x5.heap.size := by have := s5.out; have := s6.out; have := s7.out; omega
  have nekAkC : y3.heap.size ≠ x6.heap.size := by have := s5.out; have := s6.out; have := s7.out; omega
  have nekBkC : x5.heap.size ≠ x6.heap.size := by have := s5.out; have := s6.out; have := s7.out; omega
  go_wp2_with (refine kit.st_L rfl _ _ rfl L1 A11 n c11 rfl rfl _ zkA rfl ?_)
  intro y8 kA p8
  replace zkB := zkB.put p8 (Ne.symm nekAkB)
  replace zkC := zkC.put p8 (Ne.symm nekAkC)
  replace t4 := p8.below _ _ t4 lekA
  go_wp2_with (refine kit.st_L rfl _ _ rfl L2 A12 n2 c12 rfl rfl _ zkB rfl ?_)
  intro y9 kB p9
  replace kA := kA.put p9 nekAkB
  replace zkC := zkC.put p9 (Ne.symm nekBkC)
  replace t4 := p9.below _ _ t4 lekB
  go_wp2_with (refine kit.st_L rfl _ _ rfl L3 A13 n3 c13 rfl rfl _ zkC rfl ?_)
  intro y10 kC p10
  replace kA := kA.put p10 nekAkC
  replace kB := kB.put p10 nekBkC
  replace t4 := p10.below _ _ t4 lekC
  replace R1 := R1.on t4 t4.size
  replace R2 := R2.on t4 t4.size
  replace R3 := R3.on t4 t4.size
  replace HB := HB.trans (t4.mono HB.size)
  clear s5 s6 s7 e5 e6 e7 lekA lekB lekC t4 nekAkB nekAkC nekBkC
  generalize y3.heap.size = gkA at *
  generalize x5.heap.size = gkB at *
  generalize x6.heap.size = gkC at *
  try clear zkA zkB zkC
  obtain ⟨p, hp⟩ : ∃ p, p = newerF L2 (lastF L1) (termF L1 (lastF L1)).1 := ⟨_, rfl⟩
  obtain ⟨q, hq⟩ : ∃ p, p = newerF L1 (lastF L2) (termF L2 (lastF L2)).1 := ⟨_, rfl⟩
  obtain ⟨r, hr⟩ : ∃ p, p = newerF L3 (lastF L2) (termF L2 (lastF L2)).1 := ⟨_, rfl⟩
  obtain ⟨s, hs⟩ : ∃ p, p = newerF L3 (lastF L1) (termF L1 (lastF L1)).1 := ⟨_, rfl⟩
  have hp1 := Lib.hid hp.symm
  have hq1 := Lib.hid hq.symm
  have hr1 := Lib.hid hr.symm
  have hs1 := Lib.hid hs.symm
  unfold newerF at hp hq hr hs
  obtain ⟨ta, hta⟩ : ∃ x, x = (termF L1 (lastF L1)).1 := ⟨_, rfl⟩
  obtain ⟨tb, htb⟩ : ∃ x, x = (termF L2 (lastF L2)).1 := ⟨_, rfl⟩
  obtain ⟨la, hla⟩ : ∃ x, x = lastF L1 := ⟨_, rfl⟩
  obtain ⟨lb, hlb⟩ : ∃ x, x = lastF L2 := ⟨_, rfl⟩
  rw [← hta, ← htb, ← hla, ← hlb] at hp hq
  rw [← htb, ← hlb] at hr
  rw [← hta, ← hla] at hs
  have Hpq : Hid ((p || q) = true) := order_or hp hq
  have Hrs : Hid (p = true → r = true → s = true) := order_on hp hr hs
  have HX : Hid ((p && q) = ((ta == tb) && (la == lb))) := order_same hp hq
  clear hp hq hr hs
  replace hta := Lib.hid hta.symm
  replace htb := Lib.hid htb.symm
  replace hla := Lib.hid hla.symm
  replace hlb := Lib.hid hlb.symm
  go_upto_region 6 with (first | refine kit.ld_L rfl _ rfl rfl kA ?_ | refine kit.ld_L rfl _ rfl rfl kB ?_ | refine kit.ld_L rfl _ rfl rfl kC ?_)
  refine wp_region_held_drew (S := fun wq => Blk 30 wq gkA (lgC L1 (.slice A11 n c11)) ∧ Blk 30 wq gkB (lgC L2 (.slice A12 n2 c12))) (by kernel_rfl) ?s_ord6 (fun hHeld => ?_)
  case s_ord6 => exact ⟨kA, kB⟩
  have hD := (Below.refl y10.heap.size y10).drew
  replace kA := kA.below hD kA.lt
  replace kB := kB.below hD kB.lt
  replace kC := kC.below hD kC.lt
  replace R1 := R1.on hD hD.size
  replace R2 := R2.on hD hD.size
  replace R3 := R3.on hD hD.size
  replace HB := HB.trans (hD.mono HB.size)
  clear hD
  generalize y10.drew = y11 at *
  refine tk 0 { dst := some 37, op := .load 30 (.tmp 7), type := 30, pos := "more.go:24", after := #[], guard := none } _ ?_ (hy := fun wq hSw => kit.rld_L rfl rfl ((fun h => h.1) hSw))
  try simp only [Act.put, List.setIfInBounds_toArray, List.set_cons_zero, List.set_cons_succ]
  refine tk 1 { dst := some 38, op := .load 30 (.tmp 7), type := 30, pos := "more.go:24", after := #[], guard := none } _ ?_ (hy := fun wq hSw => kit.rld_L rfl rfl ((fun h => h.1) hSw))
  try simp only [Act.put, List.setIfInBounds_toArray, List.set_cons_zero, List.set_cons_succ]
  refine wpAnyH_ready (rs := [2]) (by kernel_rfl) (by simp) ?_
  refine AllReadyH.cons (o := { dst := some 39, op := .call { callee := .value (.func 17), args := #[.tmp 38], argTypes := #[30] }, type := 3, pos := "more.go:24", after := #[{ on := 1, ground := .data }], guard := none }) rfl (fun KQ hKQ => ?_) AllReadyH.nil
  go_simp
  have CC := enti.last_any L1 A11 n c11 y11 R1.1 F1.out
  rw [hla.out] at CC
  refine (CC).mono ?_
  rintro e y12 ⟨rfl, hY⟩
  replace kA := kA.below hY kA.lt
  replace kB := kB.below hY kB.lt
  replace kC := kC.below hY kC.lt
  replace R1 := R1.on hY hY.size
  replace R2 := R2.on hY hY.size
  replace R3 := R3.on hY hY.size
  replace HB := HB.trans (hY.mono HB.size)
  clear hY
  clear CC
  go_wp2_with fail
  refine hKQ.out _ _ ?s_2 (fun hHeld2 => ?_)
  case s_2 => exact ⟨kA, kB⟩
  clear hKQ KQ
  try simp only [Act.put, List.setIfInBounds_toArray, List.set_cons_zero, List.set_cons_succ]
  refine wpAnyH_ready (rs := [3]) (by kernel_rfl) (by simp) ?_
  refine AllReadyH.cons (o := { dst := some 40, op := .call { callee := .value (.func 13), args := #[.tmp 37, .tmp 39], argTypes := #[30, 3] }, type := 34, pos := "more.go:24", after := #[{ on := 0, ground := .data }, { on := 2, ground := .data }, { on := 2, ground := .chain }], guard := none }) rfl (fun KQ hKQ => ?_) AllReadyH.nil
  go_simp
  have CC := enti.term_any L1 A11 n c11 (lastF L1) y12 y12.heap.size R1 (Nat.le_refl _) c11h.out F1.out
  rw [hta.out, hla.out] at CC
  refine (CC).mono ?_
  rintro e y13 ⟨rfl, hY⟩
  replace kA := kA.below hY kA.lt
  replace kB := kB.below hY kB.lt
  replace kC := kC.below hY kC.lt
  replace R1 := R1.on hY hY.size
  replace R2 := R2.on hY hY.size
  replace R3 := R3.on hY hY.size
  replace HB := HB.trans (hY.mono HB.size)
  clear hY
  clear CC
  go_wp2_with fail
  refine hKQ.out _ _ ?s_3 (fun hHeld3 => ?_)
  case s_3 => exact ⟨kA, kB⟩
  clear hKQ KQ
  try simp only [Act.put, List.setIfInBounds_toArray, List.set_cons_zero, List.set_cons_succ]
  refine tk 4 { dst := some 36, op := .move (.tmp 40), type := 34, pos := "more.go:24", after := #[{ on := 3, ground := .data }], guard := none } _ ?_
  try simp only [Act.put, List.setIfInBounds_toArray, List.set_cons_zero, List.set_cons_succ]
  refine tk 5 { dst := some 41, op := .extract (.tmp 36) 0, type := 3, pos := "more.go:24", after := #[{ on := 4, ground := .data }], guard := none } _ ?_
  try simp only [Act.put, List.setIfInBounds_toArray, List.set_cons_zero, List.set_cons_succ]
  refine tk 6 { dst := some 42, op := .extract (.tmp 36) 1, type := 4, pos := "more.go:24", after := #[{ on := 4, ground := .data }, { on := 7, ground := .gcOnly Go.Departure.lateStores }], guard := none } _ ?_
  try simp only [Act.put, List.setIfInBounds_toArray, List.set_cons_zero, List.set_cons_succ]
  refine tk 7 { dst := some 10, op := .assign (.tmp 41), type := 3, pos := "more.go:24", after := #[{ on := 5, ground := .data }, { on := 3, ground := .chain }, { on := 0, ground := .phase }, { on := 1, ground := .phase }, { on := 2, ground := .phase }, { on := 3, ground := .phase }, { on := 4, ground := .phase }, { on := 5, ground := .phase }, { on := 6, ground := .textOnly Go.Departure.lateStores }], guard := none } _ ?_
  try simp only [Act.put, List.setIfInBounds_toArray, List.set_cons_zero, List.set_cons_succ]
  refine tk 8 { dst := some 11, op := .assign (.tmp 42), type := 4, pos := "more.go:24", after := #[{ on := 6, ground := .data }, { on := 7, ground := .chain }, { on := 0, ground := .phase }, { on := 1, ground := .phase }, { on := 2, ground := .phase }, { on := 3, ground := .phase }, { on := 4, ground := .phase }, { on := 5, ground := .phase }, { on := 6, ground := .phase }, { on := 7, ground := .phase }], guard := none } _ ?_
  try simp only [Act.put, List.setIfInBounds_toArray, List.set_cons_zero, List.set_cons_succ]
  refine wpAnyH_done (by kernel_rfl) ?_ _
  go_upto_region 7 with (first | refine kit.ld_L rfl _ rfl rfl kA ?_ | refine kit.ld_L rfl _ rfl rfl kB ?_ | refine kit.ld_L rfl _ rfl rfl kC ?_)
  refine wp_region_held_drew (S := fun wq => Blk 30 wq gkA (lgC L1 (.slice A11 n c11)) ∧ Blk 30 wq gkB (lgC L2 (.slice A12 n2 c12))) (by kernel_rfl) ?s_ord7 (fun hHeld => ?_)
  case s_ord7 => exact ⟨kA, kB⟩
  have hD := (Below.refl y13.heap.size y13).drew
  replace kA := kA.below hD kA.lt
  replace kB := kB.below hD kB.lt
  replace kC := kC.below hD kC.lt
  replace R1 := R1.on hD hD.size
  replace R2 := R2.on hD hD.size
  replace R3 := R3.on hD hD.size
  replace HB := HB.trans (hD.mono HB.size)
  clear hD
  generalize y13.drew = y14 at *
  refine tk 0 { dst := some 44, op := .load 30 (.tmp 8), type := 30, pos := "more.go:25", after := #[], guard := none } _ ?_ (hy := fun wq hSw => kit.rld_L rfl rfl ((fun h => h.2) hSw))
  try simp only [Act.put, List.setIfInBounds_toArray, List.set_cons_zero, List.set_cons_succ]
  refine tk 1 { dst := some 45, op := .load 30 (.tmp 8), type := 30, pos := "more.go:25", after := #[], guard := none } _ ?_ (hy := fun wq hSw => kit.rld_L rfl rfl ((fun h => h.2) hSw))
  try simp only [Act.put, List.setIfInBounds_toArray, List.set_cons_zero, List.set_cons_succ]
  refine wpAnyH_ready (rs := [2]) (by kernel_rfl) (by simp) ?_
  refine AllReadyH.cons (o := { dst := some 46, op := .call { callee := .value (.func 17), args := #[.tmp 45], argTypes := #[30] }, type := 3, pos := "more.go:25", after := #[{ on := 1, ground := .data }], guard := none }) rfl (fun KQ hKQ => ?_) AllReadyH.nil
  go_simp
  have CC := enti.last_any L2 A12 n2 c12 y14 R2.1 F2.out
  rw [hlb.out] at CC
  refine (CC).mono ?_
  rintro e y15 ⟨rfl, hY⟩
  replace kA := kA.below hY kA.lt
  replace kB := kB.below hY kB.lt
  replace kC := kC.below hY kC.lt
  replace R1 := R1.on hY hY.size
  replace R2 := R2.on hY hY.size
  replace R3 := R3.on hY hY.size
  replace HB := HB.trans (hY.mono HB.size)
  clear hY
  clear CC
  go_wp2_with fail
  refine hKQ.out _ _ ?s_2 (fun hHeld2 => ?_)
  case s_2 => exact ⟨kA, kB⟩
  clear hKQ KQ
  try simp only [Act.put, List.setIfInBounds_toArray, List.set_cons_zero, List.set_cons_succ]
  refine wpAnyH_ready (rs := [3]) (by kernel_rfl) (by simp) ?_
  refine AllReadyH.cons (o := { dst := some 47, op := .call { callee := .value (.func 13), args := #[.tmp 44, .tmp 46], argTypes := #[30, 3] }, type := 34, pos := "more.go:25", after := #[{ on := 0, ground := .data }, { on := 2, ground := .data }, { on := 2, ground := .chain }], guard := none }) rfl (fun KQ hKQ => ?_) AllReadyH.nil
  go_simp
  have CC := enti.term_any L2 A12 n2 c12 (lastF L2) y15 y15.heap.size R2 (Nat.le_refl _) c12h.out F2.out
  rw [htb.out, hlb.out] at CC
  refine (CC).mono ?_
  rintro e y16 ⟨rfl, hY⟩
  replace kA := kA.below hY kA.lt
  replace kB := kB.below hY kB.lt
  replace kC := kC.below hY kC.lt
  replace R1 := R1.on hY hY.size
  replace R2 := R2.on hY hY.size
  replace R3 := R3.on hY hY.size
  replace HB := HB.trans (hY.mono HB.size)
  clear hY
  clear CC
  go_wp2_with fail
  refine hKQ.out _ _ ?s_3 (fun hHeld3 => ?_)
  case s_3 => exact ⟨kA, kB⟩
  clear hKQ KQ
  try simp only [Act.put, List.setIfInBounds_toArray, List.set_cons_zero, List.set_cons_succ]
  refine tk 4 { dst := some 43, op := .move (.tmp 47), type := 34, pos := "more.go:25", after := #[{ on := 3, ground := .data }], guard := none } _ ?_
  try simp only [Act.put, List.setIfInBounds_toArray, List.set_cons_zero, List.set_cons_succ]
  refine tk 5 { dst := some 48, op := .extract (.tmp 43) 0, type := 3, pos := "more.go:25", after := #[{ on := 4, ground := .data }], guard := none } _ ?_
  try simp only [Act.put, List.setIfInBounds_toArray, List.set_cons_zero, List.set_cons_succ]
  refine tk 6 { dst := some 49, op := .extract (.tmp 43) 1, type := 4, pos := "more.go:25", after := #[{ on := 4, ground := .data }, { on := 7, ground := .gcOnly Go.Departure.lateStores }], guard := none } _ ?_
  try simp only [Act.put, List.setIfInBounds_toArray, List.set_cons_zero, List.set_cons_succ]
  refine tk 7 { dst := some 12, op := .assign (.tmp 48), type := 3, pos := "more.go:25", after := #[{ on := 5, ground := .data }, { on := 3, ground := .chain }, { on := 0, ground := .phase }, { on := 1, ground := .phase }, { on := 2, ground := .phase }, { on := 3, ground := .phase }, { on := 4, ground := .phase }, { on := 5, ground := .phase }, { on := 6, ground := .textOnly Go.Departure.lateStores }], guard := none } _ ?_
  try simp only [Act.put, List.setIfInBounds_toArray, List.set_cons_zero, List.set_cons_succ]
  refine tk 8 { dst := some 13, op := .assign (.tmp 49), type := 4, pos := "more.go:25", after := #[{ on := 6, ground := .data }, { on := 7, ground := .chain }, { on := 0, ground := .phase }, { on := 1, ground := .phase }, { on := 2, ground := .phase }, { on := 3, ground := .phase }, { on := 4, ground := .phase }, { on := 5, ground := .phase }, { on := 6, ground := .phase }, { on := 7, ground := .phase }], guard := none } _ ?_
  try simp only [Act.put, List.setIfInBounds_toArray, List.set_cons_zero, List.set_cons_succ]
  refine wpAnyH_done (by kernel_rfl) ?_ _
  rcases p with _ | _
  · have hq2 := Hpq.out
    rw [Bool.false_or] at hq2
    subst hq2
    by_cases hab : ta = tb
    · skip
      have hab2 : (ta == tb) = true := by simpa using hab
      have hXA : (la == lb) = false := by have h := HX.out; rw [hab2] at h; simpa using h.symm
      go_upto_region 8 with (first | refine kit.ld_L rfl _ rfl rfl kA ?_ | refine kit.ld_L rfl _ rfl rfl kB ?_ | refine kit.ld_L rfl _ rfl rfl kC ?_)
      refine wp_region_held_drew (S := fun wq => Blk 30 wq gkA (lgC L1 (.slice A11 n c11)) ∧ Blk 30 wq gkB (lgC L2 (.slice A12 n2 c12))) (by kernel_rfl) ?s_ord8A010 (fun hHeld => ?_)
      case s_ord8A010 => exact ⟨kA, kB⟩
      have hD := (Below.refl y16.heap.size y16).drew
      replace kA := kA.below hD kA.lt
      replace kB := kB.below hD kB.lt
      replace kC := kC.below hD kC.lt
      replace R1 := R1.on hD hD.size
      replace R2 := R2.on hD hD.size
      replace R3 := R3.on hD hD.size
      replace HB := HB.trans (hD.mono HB.size)
      clear hD
      generalize y16.drew = y17 at *
      refine tk 0 { dst := some 50, op := .move (.tmp 10), type := 3, pos := "more.go:26", after := #[], guard := none } _ ?_
      try simp only [Act.put, List.setIfInBounds_toArray, List.set_cons_zero, List.set_cons_succ]
      refine tk 1 { dst := some 51, op := .move (.tmp 12), type := 3, pos := "more.go:26", after := #[], guard := none } _ ?_
      try simp only [Act.put, List.setIfInBounds_toArray, List.set_cons_zero, List.set_cons_succ]
      refine tk 2 { dst := some 52, op := .binOp .eql 3 (.tmp 50) (.tmp 51) 3, type := 4, pos := "more.go:26", after := #[{ on := 0, ground := .data }, { on := 1, ground := .data }], guard := none } _ ?_
      try simp only [Act.put, List.setIfInBounds_toArray, List.set_cons_zero, List.set_cons_succ]
      refine tk 3 { dst := some 53, op := .move (.tmp 52), type := 4, pos := "more.go:26", after := #[{ on := 2, ground := .data }], guard := none } _ ?_
      try simp only [Act.put, List.setIfInBounds_toArray, List.set_cons_zero, List.set_cons_succ]
      refine tk 4 { dst := some 54, op := .load 30 (.tmp 7), type := 30, pos := "more.go:26", after := #[{ on := 3, ground := .guard }], guard := some (3, true) } _ ?_ (hy := fun wq hSw => kit.rld_L rfl rfl ((fun h => h.1) hSw))
      try simp only [Act.put, List.setIfInBounds_toArray, List.set_cons_zero, List.set_cons_succ]
      refine tk 6 { dst := some 56, op := .load 30 (.tmp 8), type := 30, pos := "more.go:26", after := #[{ on := 3, ground := .guard }], guard := some (3, true) } _ ?_ (hy := fun wq hSw => kit.rld_L rfl rfl ((fun h => h.2) hSw))
      try simp only [Act.put, List.setIfInBounds_toArray, List.set_cons_zero, List.set_cons_succ]
      refine wpAnyH_ready (rs := [5]) (by kernel_rfl) (by simp) ?_
      refine AllReadyH.cons (o := { dst := some 55, op := .call { callee := .value (.func 17), args := #[.tmp 54], argTypes := #[30] }, type := 3, pos := "more.go:26", after := #[{ on := 4, ground := .data }, { on := 3, ground := .chain }, { on := 3, ground := .guard }], guard := some (3, true) }) rfl (fun KQ hKQ => ?_) AllReadyH.nil
      go_simp
      have CC := enti.last_any L1 A11 n c11 y17 R1.1 F1.out
      rw [hla.out] at CC
      refine (CC).mono ?_
      rintro e y18 ⟨rfl, hY⟩
      replace kA := kA.below hY kA.lt
      replace kB := kB.below hY kB.lt
      replace kC := kC.below hY kC.lt
      replace R1 := R1.on hY hY.size
      replace R2 := R2.on hY hY.size
      replace R3 := R3.on hY hY.size
      replace HB := HB.trans (hY.mono HB.size)
      clear hY
      clear CC
      go_wp2_with fail
      refine hKQ.out _ _ ?s_5 (fun hHeld5 => ?_)
      case s_5 => exact ⟨kA, kB⟩
      clear hKQ KQ
      try simp only [Act.put, List.setIfInBounds_toArray, List.set_cons_zero, List.set_cons_succ]
      refine wpAnyH_ready (rs := [7]) (by kernel_rfl) (by simp) ?_
      refine AllReadyH.cons (o := { dst := some 57, op := .call { callee := .value (.func 17), args := #[.tmp 56], argTypes := #[30] }, type := 3, pos := "more.go:26", after := #[{ on := 6, ground := .data }, { on := 5, ground := .chain }, { on := 3, ground := .guard }], guard := some (3, true) }) rfl (fun KQ hKQ => ?_) AllReadyH.nil
      go_simp
      have CC := enti.last_any L2 A12 n2 c12 y18 R2.1 F2.out
      rw [hlb.out] at CC
      refine (CC).mono ?_
      rintro e y19 ⟨rfl, hY⟩
      replace kA := kA.below hY kA.lt
      replace kB := kB.below hY kB.lt
      replace kC := kC.below hY kC.lt
      replace R1 := R1.on hY hY.size
      replace R2 := R2.on hY hY.size
      replace R3 := R3.on hY hY.size
      replace HB := HB.trans (hY.mono HB.size)
      clear hY
      clear CC
      go_wp2_with fail
      refine hKQ.out _ _ ?s_7 (fun hHeld7 => ?_)
      case s_7 => exact ⟨kA, kB⟩
      clear hKQ KQ
      try simp only [Act.put, List.setIfInBounds_toArray, List.set_cons_zero, List.set_cons_succ]
      refine tk 8 { dst := some 58, op := .binOp .eql 3 (.tmp 55) (.tmp 57) 3, type := 4, pos := "more.go:26", after := #[{ on := 5, ground := .data }, { on := 7, ground := .data }, { on := 3, ground := .guard }], guard := some (3, true) } _ ?_
      try simp only [Act.put, List.setIfInBounds_toArray, List.set_cons_zero, List.set_cons_succ]
      refine tk 9 { dst := some 59, op := .pick (.tmp 53) (.tmp 58) (.const (.bool false)), type := 4, pos := "more.go:26", after := #[{ on := 3, ground := .data }, { on := 8, ground := .data }], guard := none } _ ?_
      try simp only [Act.put, List.setIfInBounds_toArray, List.set_cons_zero, List.set_cons_succ]
      refine tk 10 { dst := some 14, op := .assign (.tmp 59), type := 4, pos := "more.go:26", after := #[{ on := 9, ground := .data }, { on := 7, ground := .chain }, { on := 0, ground := .phase }, { on := 1, ground := .phase }, { on := 2, ground := .phase }, { on := 3, ground := .phase }, { on := 4, ground := .phase }, { on := 5, ground := .phase }, { on := 6, ground := .phase }, { on := 7, ground := .phase }, { on := 8, ground := .phase }, { on := 9, ground := .phase }], guard := none } _ ?_
      try simp only [Act.put, List.setIfInBounds_toArray, List.set_cons_zero, List.set_cons_succ]
      refine wpAnyH_done (by kernel_rfl) ?_ _
      go_wp2_with (first | refine kit.ld_L rfl _ rfl rfl kA ?_ | refine kit.ld_L rfl _ rfl rfl kB ?_ | refine kit.ld_L rfl _ rfl rfl kC ?_)
      have CC := newer_any L1 L2 A11 n c11 A12 n2 c12 y19 y19.heap.size y19.heap.size R1 (Nat.le_refl _) R2 (Nat.le_refl _) c11h.out c12h.out F1.out F2.out
      rw [hp1.out] at CC
      refine (CC).mono ?_
      rintro e y20 ⟨rfl, hY⟩
      replace kA := kA.below hY kA.lt
      replace kB := kB.below hY kB.lt
      replace kC := kC.below hY kC.lt
      replace R1 := R1.on hY hY.size
      replace R2 := R2.on hY hY.size
      replace R3 := R3.on hY hY.size
      replace HB := HB.trans (hY.mono HB.size)
      clear hY
      clear CC
      go_wp2_with (first | refine kit.ld_L rfl _ rfl rfl kA ?_ | refine kit.ld_L rfl _ rfl rfl kB ?_ | refine kit.ld_L rfl _ rfl rfl kC ?_)
      have CC := newer_any L2 L1 A12 n2 c12 A11 n c11 y20 y20.heap.size y20.heap.size R2 (Nat.le_refl _) R1 (Nat.le_refl _) c12h.out c11h.out F2.out F1.out
      rw [hq1.out] at CC
      refine (CC).mono ?_
      rintro e y21 ⟨rfl, hY⟩
      replace kA := kA.below hY kA.lt
      replace kB := kB.below hY kB.lt
      replace kC := kC.below hY kC.lt
      replace R1 := R1.on hY hY.size
      replace R2 := R2.on hY hY.size
      replace R3 := R3.on hY hY.size
      replace HB := HB.trans (hY.mono HB.size)
      clear hY
      clear CC
      go_wp2_with (first | refine kit.ld_L rfl _ rfl rfl kA ?_ | refine kit.ld_L rfl _ rfl rfl kB ?_ | refine kit.ld_L rfl _ rfl rfl kC ?_)
      have CC := newer_any L1 L2 A11 n c11 A12 n2 c12 y21 y21.heap.size y21.heap.size R1 (Nat.le_refl _) R2 (Nat.le_refl _) c11h.out c12h.out F1.out F2.out
      rw [hp1.out] at CC
      refine (CC).mono ?_
      rintro e y22 ⟨rfl, hY⟩
      replace kA := kA.below hY kA.lt
      replace kB := kB.below hY kB.lt
      replace kC := kC.below hY kC.lt
      replace R1 := R1.on hY hY.size
      replace R2 := R2.on hY hY.size
      replace R3 := R3.on hY hY.size
      replace HB := HB.trans (hY.mono HB.size)
      clear hY
      clear CC
      go_wp2_with (first | refine kit.ld_L rfl _ rfl rfl kA ?_ | refine kit.ld_L rfl _ rfl rfl kB ?_ | refine kit.ld_L rfl _ rfl rfl kC ?_)
      have CC := newer_any L1 L2 A11 n c11 A12 n2 c12 y22 y22.heap.size y22.heap.size R1 (Nat.le_refl _) R2 (Nat.le_refl _) c11h.out c12h.out F1.out F2.out
      rw [hp1.out] at CC
      refine (CC).mono ?_
      rintro e y23 ⟨rfl, hY⟩
      replace kA := kA.below hY kA.lt
      replace kB := kB.below hY kB.lt
      replace kC := kC.below hY kC.lt
      replace R1 := R1.on hY hY.size
      replace R2 := R2.on hY hY.size
      replace R3 := R3.on hY hY.size
      replace HB := HB.trans (hY.mono HB.size)
      clear hY
      clear CC
      go_wp2_with (first | refine kit.ld_L rfl _ rfl rfl kA ?_ | refine kit.ld_L rfl _ rfl rfl kB ?_ | refine kit.ld_L rfl _ rfl rfl kC ?_)
      go_ret
      exact ⟨by first | rfl | simp, HB⟩
    · skip
      have hab2 : (ta == tb) = false := by simpa using hab
      go_upto_region 8 with (first | refine kit.ld_L rfl _ rfl rfl kA ?_ | refine kit.ld_L rfl _ rfl rfl kB ?_ | refine kit.ld_L rfl _ rfl rfl kC ?_)
      refine wp_region_held_drew (S := fun wq => Blk 30 wq gkA (lgC L1 (.slice A11 n c11)) ∧ Blk 30 wq gkB (lgC L2 (.slice A12 n2 c12))) (by kernel_rfl) ?s_ord8B010 (fun hHeld => ?_)
      case s_ord8B010 => exact ⟨kA, kB⟩
      have hD := (Below.refl y16.heap.size y16).drew
      replace kA := kA.below hD kA.lt
      replace kB := kB.below hD kB.lt
      replace kC := kC.below hD kC.lt
      replace R1 := R1.on hD hD.size
      replace R2 := R2.on hD hD.size
      replace R3 := R3.on hD hD.size
      replace HB := HB.trans (hD.mono HB.size)
      clear hD
      generalize y16.drew = y17 at *
      refine tk 0 { dst := some 50, op := .move (.tmp 10), type := 3, pos := "more.go:26", after := #[], guard := none } _ ?_
      try simp only [Act.put, List.setIfInBounds_toArray, List.set_cons_zero, List.set_cons_succ]
      refine tk 1 { dst := some 51, op := .move (.tmp 12), type := 3, pos := "more.go:26", after := #[], guard := none } _ ?_
      try simp only [Act.put, List.setIfInBounds_toArray, List.set_cons_zero, List.set_cons_succ]
      refine tk 2 { dst := some 52, op := .binOp .eql 3 (.tmp 50) (.tmp 51) 3, type := 4, pos := "more.go:26", after := #[{ on := 0, ground := .data }, { on := 1, ground := .data }], guard := none } _ ?_
      try simp only [Act.put, List.setIfInBounds_toArray, List.set_cons_zero, List.set_cons_succ]
      refine tk 3 { dst := some 53, op := .move (.tmp 52), type := 4, pos := "more.go:26", after := #[{ on := 2, ground := .data }], guard := none } _ ?_
      try simp only [Act.put, List.setIfInBounds_toArray, List.set_cons_zero, List.set_cons_succ]
      refine tu 4 { dst := some 54, op := .load 30 (.tmp 7), type := 30, pos := "more.go:26", after := #[{ on := 3, ground := .guard }], guard := some (3, true) } ?_
      try simp only [Act.put, List.setIfInBounds_toArray, List.set_cons_zero, List.set_cons_succ]
      refine tu 5 { dst := some 55, op := .call { callee := .value (.func 17), args := #[.tmp 54], argTypes := #[30] }, type := 3, pos := "more.go:26", after := #[{ on := 4, ground := .data }, { on := 3, ground := .chain }, { on := 3, ground := .guard }], guard := some (3, true) } ?_
      try simp only [Act.put, List.setIfInBounds_toArray, List.set_cons_zero, List.set_cons_succ]
      refine tu 6 { dst := some 56, op := .load 30 (.tmp 8), type := 30, pos := "more.go:26", after := #[{ on := 3, ground := .guard }], guard := some (3, true) } ?_
      try simp only [Act.put, List.setIfInBounds_toArray, List.set_cons_zero, List.set_cons_succ]
      refine tu 7 { dst := some 57, op := .call { callee := .value (.func 17), args := #[.tmp 56], argTypes := #[30] }, type := 3, pos := "more.go:26", after := #[{ on := 6, ground := .data }, { on := 5, ground := .chain }, { on := 3, ground := .guard }], guard := some (3, true) } ?_
      try simp only [Act.put, List.setIfInBounds_toArray, List.set_cons_zero, List.set_cons_succ]
      refine tu 8 { dst := some 58, op := .binOp .eql 3 (.tmp 55) (.tmp 57) 3, type := 4, pos := "more.go:26", after := #[{ on := 5, ground := .data }, { on := 7, ground := .data }, { on := 3, ground := .guard }], guard := some (3, true) } ?_
      try simp only [Act.put, List.setIfInBounds_toArray, List.set_cons_zero, List.set_cons_succ]
      refine tk 9 { dst := some 59, op := .pick (.tmp 53) (.tmp 58) (.const (.bool false)), type := 4, pos := "more.go:26", after := #[{ on := 3, ground := .data }, { on := 8, ground := .data }], guard := none } _ ?_
      try simp only [Act.put, List.setIfInBounds_toArray, List.set_cons_zero, List.set_cons_succ]
      refine tk 10 { dst := some 14, op := .assign (.tmp 59), type := 4, pos := "more.go:26", after := #[{ on := 9, ground := .data }, { on := 7, ground := .chain }, { on := 0, ground := .phase }, { on := 1, ground := .phase }, { on := 2, ground := .phase }, { on := 3, ground := .phase }, { on := 4, ground := .phase }, { on := 5, ground := .phase }, { on := 6, ground := .phase }, { on := 7, ground := .phase }, { on := 8, ground := .phase }, { on := 9, ground := .phase }], guard := none } _ ?_
      try simp only [Act.put, List.setIfInBounds_toArray, List.set_cons_zero, List.set_cons_succ]
      refine wpAnyH_done (by kernel_rfl) ?_ _
      go_wp2_with (first | refine kit.ld_L rfl _ rfl rfl kA ?_ | refine kit.ld_L rfl _ rfl rfl kB ?_ | refine kit.ld_L rfl _ rfl rfl kC ?_)
      have CC := newer_any L1 L2 A11 n c11 A12 n2 c12 y17 y17.heap.size y17.heap.size R1 (Nat.le_refl _) R2 (Nat.le_refl _) c11h.out c12h.out F1.out F2.out
      rw [hp1.out] at CC
      refine (CC).mono ?_
      rintro e y18 ⟨rfl, hY⟩
      replace kA := kA.below hY kA.lt
      replace kB := kB.below hY kB.lt
      replace kC := kC.below hY kC.lt
      replace R1 := R1.on hY hY.size
      replace R2 := R2.on hY hY.size
      replace R3 := R3.on hY hY.size
      replace HB := HB.trans (hY.mono HB.size)
      clear hY
      clear CC
      go_wp2_with (first | refine kit.ld_L rfl _ rfl rfl kA ?_ | refine kit.ld_L rfl _ rfl rfl kB ?_ | refine kit.ld_L rfl _ rfl rfl kC ?_)
      have CC := newer_any L2 L1 A12 n2 c12 A11 n c11 y18 y18.heap.size y18.heap.size R2 (Nat.le_refl _) R1 (Nat.le_refl _) c12h.out c11h.out F2.out F1.out
      rw [hq1.out] at CC
      refine (CC).mono ?_
      rintro e y19 ⟨rfl, hY⟩
      replace kA := kA.below hY kA.lt
      replace kB := kB.below hY kB.lt
      replace kC := kC.below hY kC.lt
      replace R1 := R1.on hY hY.size
      replace R2 := R2.on hY hY.size
      replace R3 := R3.on hY hY.size
      replace HB := HB.trans (hY.mono HB.size)
      clear hY
      clear CC
      go_wp2_with (first | refine kit.ld_L rfl _ rfl rfl kA ?_ | refine kit.ld_L rfl _ rfl rfl kB ?_ | refine kit.ld_L rfl _ rfl rfl kC ?_)
      have CC := newer_any L1 L2 A11 n c11 A12 n2 c12 y19 y19.heap.size y19.heap.size R1 (Nat.le_refl _) R2 (Nat.le_refl _) c11h.out c12h.out F1.out F2.out
      rw [hp1.out] at CC
      refine (CC).mono ?_
      rintro e y20 ⟨rfl, hY⟩
      replace kA := kA.below hY kA.lt
      replace kB := kB.below hY kB.lt
      replace kC := kC.below hY kC.lt
      replace R1 := R1.on hY hY.size
      replace R2 := R2.on hY hY.size
      replace R3 := R3.on hY hY.size
      replace HB := HB.trans (hY.mono HB.size)
      clear hY
      clear CC
      go_wp2_with (first | refine kit.ld_L rfl _ rfl rfl kA ?_ | refine kit.ld_L rfl _ rfl rfl kB ?_ | refine kit.ld_L rfl _ rfl rfl kC ?_)
      have CC := newer_any L1 L2 A11 n c11 A12 n2 c12 y20 y20.heap.size y20.heap.size R1 (Nat.le_refl _) R2 (Nat.le_refl _) c11h.out c12h.out F1.out F2.out
      rw [hp1.out] at CC
      refine (CC).mono ?_
      rintro e y21 ⟨rfl, hY⟩
      replace kA := kA.below hY kA.lt
      replace kB := kB.below hY kB.lt
      replace kC := kC.below hY kC.lt
      replace R1 := R1.on hY hY.size
      replace R2 := R2.on hY hY.size
      replace R3 := R3.on hY hY.size
      replace HB := HB.trans (hY.mono HB.size)
      clear hY
      clear CC
      go_wp2_with (first | refine kit.ld_L rfl _ rfl rfl kA ?_ | refine kit.ld_L rfl _ rfl rfl kB ?_ | refine kit.ld_L rfl _ rfl rfl kC ?_)
      go_ret
      exact ⟨by first | rfl | simp, HB⟩
  · rcases q with _ | _
    · rcases r with _ | _
      · skip
        by_cases hab : ta = tb
        · skip
          have hab2 : (ta == tb) = true := by simpa using hab
          have hXA : (la == lb) = false := by have h := HX.out; rw [hab2] at h; simpa using h.symm
          go_upto_region 8 with (first | refine kit.ld_L rfl _ rfl rfl kA ?_ | refine kit.ld_L rfl _ rfl rfl kB ?_ | refine kit.ld_L rfl _ rfl rfl kC ?_)
          refine wp_region_held_drew (S := fun wq => Blk 30 wq gkA (lgC L1 (.slice A11 n c11)) ∧ Blk 30 wq gkB (lgC L2 (.slice A12 n2 c12))) (by kernel_rfl) ?s_ord8A100 (fun hHeld => ?_)
          case s_ord8A100 => exact ⟨kA, kB⟩
          have hD := (Below.refl y16.heap.size y16).drew
          replace kA := kA.below hD kA.lt
          replace kB := kB.below hD kB.lt
          replace kC := kC.below hD kC.lt
          replace R1 := R1.on hD hD.size
          replace R2 := R2.on hD hD.size
          replace R3 := R3.on hD hD.size
          replace HB := HB.trans (hD.mono HB.size)
          clear hD
          generalize y16.drew = y17 at *
          refine tk 0 { dst := some 50, op := .move (.tmp 10), type := 3, pos := "more.go:26", after := #[], guard := none } _ ?_
          try simp only [Act.put, List.setIfInBounds_toArray, List.set_cons_zero, List.set_cons_succ]
          refine tk 1 { dst := some 51, op := .move (.tmp 12), type := 3, pos := "more.go:26", after := #[], guard := none } _ ?_
          try simp only [Act.put, List.setIfInBounds_toArray, List.set_cons_zero, List.set_cons_succ]
          refine tk 2 { dst := some 52, op := .binOp .eql 3 (.tmp 50) (.tmp 51) 3, type := 4, pos := "more.go:26", after := #[{ on := 0, ground := .data }, { on := 1, ground := .data }], guard := none } _ ?_
          try simp only [Act.put, List.setIfInBounds_toArray, List.set_cons_zero, List.set_cons_succ]
          refine tk 3 { dst := some 53, op := .move (.tmp 52), type := 4, pos := "more.go:26", after := #[{ on := 2, ground := .data }], guard := none } _ ?_
          try simp only [Act.put, List.setIfInBounds_toArray, List.set_cons_zero, List.set_cons_succ]
          refine tk 4 { dst := some 54, op := .load 30 (.tmp 7), type := 30, pos := "more.go:26", after := #[{ on := 3, ground := .guard }], guard := some (3, true) } _ ?_ (hy := fun wq hSw => kit.rld_L rfl rfl ((fun h => h.1) hSw))
          try simp only [Act.put, List.setIfInBounds_toArray, List.set_cons_zero, List.set_cons_succ]
          refine tk 6 { dst := some 56, op := .load 30 (.tmp 8), type := 30, pos := "more.go:26", after := #[{ on := 3, ground := .guard }], guard := some (3, true) } _ ?_ (hy := fun wq hSw => kit.rld_L rfl rfl ((fun h => h.2) hSw))
          try simp only [Act.put, List.setIfInBounds_toArray, List.set_cons_zero, List.set_cons_succ]
          refine wpAnyH_ready (rs := [5]) (by kernel_rfl) (by simp) ?_
          refine AllReadyH.cons (o := { dst := some 55, op := .call { callee := .value (.func 17), args := #[.tmp 54], argTypes := #[30] }, type := 3, pos := "more.go:26", after := #[{ on := 4, ground := .data }, { on := 3, ground := .chain }, { on := 3, ground := .guard }], guard := some (3, true) }) rfl (fun KQ hKQ => ?_) AllReadyH.nil
          go_simp
          have CC := enti.last_any L1 A11 n c11 y17 R1.1 F1.out
          rw [hla.out] at CC
          refine (CC).mono ?_
          rintro e y18 ⟨rfl, hY⟩
          replace kA := kA.below hY kA.lt
          replace kB := kB.below hY kB.lt
          replace kC := kC.below hY kC.lt
          replace R1 := R1.on hY hY.size
          replace R2 := R2.on hY hY.size
          replace R3 := R3.on hY hY.size
          replace HB := HB.trans (hY.mono HB.size)
          clear hY
          clear CC
          go_wp2_with fail
          refine hKQ.out _ _ ?s_5 (fun hHeld5 => ?_)
          case s_5 => exact ⟨kA, kB⟩
          clear hKQ KQ
          try simp only [Act.put, List.setIfInBounds_toArray, List.set_cons_zero, List.set_cons_succ]
          refine wpAnyH_ready (rs := [7]) (by kernel_rfl) (by simp) ?_
          refine AllReadyH.cons (o := { dst := some 57, op := .call { callee := .value (.func 17), args := #[.tmp 56], argTypes := #[30] }, type := 3, pos := "more.go:26", after := #[{ on := 6, ground := .data }, { on := 5, ground := .chain }, { on := 3, ground := .guard }], guard := some (3, true) }) rfl (fun KQ hKQ => ?_) AllReadyH.nil
          go_simp
          have CC := enti.last_any L2 A12 n2 c12 y18 R2.1 F2.out
          rw [hlb.out] at CC
          refine (CC).mono ?_
          rintro e y19 ⟨rfl, hY⟩
          replace kA := kA.below hY kA.lt
          replace kB := kB.below hY kB.lt
          replace kC := kC.below hY kC.lt
          replace R1 := R1.on hY hY.size
          replace R2 := R2.on hY hY.size
          replace R3 := R3.on hY hY.size
          replace HB := HB.trans (hY.mono HB.size)
          clear hY
          clear CC
          go_wp2_with fail
          refine hKQ.out _ _ ?s_7 (fun hHeld7 => ?_)
          case s_7 => exact ⟨kA, kB⟩
          clear hKQ KQ
          try simp only [Act.put, List.setIfInBounds_toArray, List.set_cons_zero, List.set_cons_succ]
          refine tk 8 { dst := some 58, op := .binOp .eql 3 (.tmp 55) (.tmp 57) 3, type := 4, pos := "more.go:26", after := #[{ on := 5, ground := .data }, { on := 7, ground := .data }, { on := 3, ground := .guard }], guard := some (3, true) } _ ?_
          try simp only [Act.put, List.setIfInBounds_toArray, List.set_cons_zero, List.set_cons_succ]
          refine tk 9 { dst := some 59, op := .pick (.tmp 53) (.tmp 58) (.const (.bool false)), type := 4, pos := "more.go:26", after := #[{ on := 3, ground := .data }, { on := 8, ground := .data }], guard := none } _ ?_
          try simp only [Act.put, List.setIfInBounds_toArray, List.set_cons_zero, List.set_cons_succ]
          refine tk 10 { dst := some 14, op := .assign (.tmp 59), type := 4, pos := "more.go:26", after := #[{ on := 9, ground := .data }, { on := 7, ground := .chain }, { on := 0, ground := .phase }, { on := 1, ground := .phase }, { on := 2, ground := .phase }, { on := 3, ground := .phase }, { on := 4, ground := .phase }, { on := 5, ground := .phase }, { on := 6, ground := .phase }, { on := 7, ground := .phase }, { on := 8, ground := .phase }, { on := 9, ground := .phase }], guard := none } _ ?_
          try simp only [Act.put, List.setIfInBounds_toArray, List.set_cons_zero, List.set_cons_succ]
          refine wpAnyH_done (by kernel_rfl) ?_ _
          go_wp2_with (first | refine kit.ld_L rfl _ rfl rfl kA ?_ | refine kit.ld_L rfl _ rfl rfl kB ?_ | refine kit.ld_L rfl _ rfl rfl kC ?_)
          have CC := newer_any L1 L2 A11 n c11 A12 n2 c12 y19 y19.heap.size y19.heap.size R1 (Nat.le_refl _) R2 (Nat.le_refl _) c11h.out c12h.out F1.out F2.out
          rw [hp1.out] at CC
          refine (CC).mono ?_
          rintro e y20 ⟨rfl, hY⟩
          replace kA := kA.below hY kA.lt
          replace kB := kB.below hY kB.lt
          replace kC := kC.below hY kC.lt
          replace R1 := R1.on hY hY.size
          replace R2 := R2.on hY hY.size
          replace R3 := R3.on hY hY.size
          replace HB := HB.trans (hY.mono HB.size)
          clear hY
          clear CC
          go_wp2_with (first | refine kit.ld_L rfl _ rfl rfl kA ?_ | refine kit.ld_L rfl _ rfl rfl kB ?_ | refine kit.ld_L rfl _ rfl rfl kC ?_)
          have CC := newer_any L1 L2 A11 n c11 A12 n2 c12 y20 y20.heap.size y20.heap.size R1 (Nat.le_refl _) R2 (Nat.le_refl _) c11h.out c12h.out F1.out F2.out
          rw [hp1.out] at CC
          refine (CC).mono ?_
          rintro e y21 ⟨rfl, hY⟩
          replace kA := kA.below hY kA.lt
          replace kB := kB.below hY kB.lt
          replace kC := kC.below hY kC.lt
          replace R1 := R1.on hY hY.size
          replace R2 := R2.on hY hY.size
          replace R3 := R3.on hY hY.size
          replace HB := HB.trans (hY.mono HB.size)
          clear hY
          clear CC
          go_wp2_with (first | refine kit.ld_L rfl _ rfl rfl kA ?_ | refine kit.ld_L rfl _ rfl rfl kB ?_ | refine kit.ld_L rfl _ rfl rfl kC ?_)
          have CC := newer_any L2 L1 A12 n2 c12 A11 n c11 y21 y21.heap.size y21.heap.size R2 (Nat.le_refl _) R1 (Nat.le_refl _) c12h.out c11h.out F2.out F1.out
          rw [hq1.out] at CC
          refine (CC).mono ?_
          rintro e y22 ⟨rfl, hY⟩
          replace kA := kA.below hY kA.lt
          replace kB := kB.below hY kB.lt
          replace kC := kC.below hY kC.lt
          replace R1 := R1.on hY hY.size
          replace R2 := R2.on hY hY.size
          replace R3 := R3.on hY hY.size
          replace HB := HB.trans (hY.mono HB.size)
          clear hY
          clear CC
          go_wp2_with (first | refine kit.ld_L rfl _ rfl rfl kA ?_ | refine kit.ld_L rfl _ rfl rfl kB ?_ | refine kit.ld_L rfl _ rfl rfl kC ?_)
          have CC := newer_any L1 L2 A11 n c11 A12 n2 c12 y22 y22.heap.size y22.heap.size R1 (Nat.le_refl _) R2 (Nat.le_refl _) c11h.out c12h.out F1.out F2.out
          rw [hp1.out] at CC
          refine (CC).mono ?_
          rintro e y23 ⟨rfl, hY⟩
          replace kA := kA.below hY kA.lt
          replace kB := kB.below hY kB.lt
          replace kC := kC.below hY kC.lt
          replace R1 := R1.on hY hY.size
          replace R2 := R2.on hY hY.size
          replace R3 := R3.on hY hY.size
          replace HB := HB.trans (hY.mono HB.size)
          clear hY
          clear CC
          go_wp2_with (first | refine kit.ld_L rfl _ rfl rfl kA ?_ | refine kit.ld_L rfl _ rfl rfl kB ?_ | refine kit.ld_L rfl _ rfl rfl kC ?_)
          have CC := newer_any L2 L3 A12 n2 c12 A13 n3 c13 y23 y23.heap.size y23.heap.size R2 (Nat.le_refl _) R3 (Nat.le_refl _) c12h.out c13h.out F2.out F3.out
          rw [hr1.out] at CC
          refine (CC).mono ?_
          rintro e y24 ⟨rfl, hY⟩
          replace kA := kA.below hY kA.lt
          replace kB := kB.below hY kB.lt
          replace kC := kC.below hY kC.lt
          replace R1 := R1.on hY hY.size
          replace R2 := R2.on hY hY.size
          replace R3 := R3.on hY hY.size
          replace HB := HB.trans (hY.mono HB.size)
          clear hY
          clear CC
          go_wp2_with (first | refine kit.ld_L rfl _ rfl rfl kA ?_ | refine kit.ld_L rfl _ rfl rfl kB ?_ | refine kit.ld_L rfl _ rfl rfl kC ?_)
          go_ret
          exact ⟨by first | rfl | simp, HB⟩
        · skip
          have hab2 : (ta == tb) = false := by simpa using hab
          go_upto_region 8 with (first | refine kit.ld_L rfl _ rfl rfl kA ?_ | refine kit.ld_L rfl _ rfl rfl kB ?_ | refine kit.ld_L rfl _ rfl rfl kC ?_)
          refine wp_region_held_drew (S := fun wq => Blk 30 wq gkA (lgC L1 (.slice A11 n c11)) ∧ Blk 30 wq gkB (lgC L2 (.slice A12 n2 c12))) (by kernel_rfl) ?s_ord8B100 (fun hHeld => ?_)
          case s_ord8B100 => exact ⟨kA, kB⟩
          have hD := (Below.refl y16.heap.size y16).drew
          replace kA := kA.below hD kA.lt
          replace kB := kB.below hD kB.lt
          replace kC := kC.below hD kC.lt
          replace R1 := R1.on hD hD.size
          replace R2 := R2.on hD hD.size
          replace R3 := R3.on hD hD.size
          replace HB := HB.trans (hD.mono HB.size)
          clear hD
          generalize y16.drew = y17 at *
          refine tk 0 { dst := some 50, op := .move (.tmp 10), type := 3, pos := "more.go:26", after := #[], guard := none } _ ?_
          try simp only [Act.put, List.setIfInBounds_toArray, List.set_cons_zero, List.set_cons_succ]
          refine tk 1 { dst := some 51, op := .move (.tmp 12), type := 3, pos := "more.go:26", after := #[], guard := none } _ ?_
          try simp only [Act.put, List.setIfInBounds_toArray, List.set_cons_zero, List.set_cons_succ]
          refine tk 2 { dst := some 52, op := .binOp .eql 3 (.tmp 50) (.tmp 51) 3, type := 4, pos := "more.go:26", after := #[{ on := 0, ground := .data }, { on := 1, ground := .data }], guard := none } _ ?_
          try simp only [Act.put, List.setIfInBounds_toArray, List.set_cons_zero, List.set_cons_succ]
          refine tk 3 { dst := some 53, op := .move (.tmp 52), type := 4, pos := "more.go:26", after := #[{ on := 2, ground := .data }], guard := none } _ ?_
          try simp only [Act.put, List.setIfInBounds_toArray, List.set_cons_zero, List.set_cons_succ]
          refine tu 4 { dst := some 54, op := .load 30 (.tmp 7), type := 30, pos := "more.go:26", after := #[{ on := 3, ground := .guard }], guard := some (3, true) } ?_
          try simp only [Act.put, List.setIfInBounds_toArray, List.set_cons_zero, List.set_cons_succ]
          refine tu 5 { dst := some 55, op := .call { callee := .value (.func 17), args := #[.tmp 54], argTypes := #[30] }, type := 3, pos := "more.go:26", after := #[{ on := 4, ground := .data }, { on := 3, ground := .chain }, { on := 3, ground := .guard }], guard := some (3, true) } ?_
          try simp only [Act.put, List.setIfInBounds_toArray, List.set_cons_zero, List.set_cons_succ]
          refine tu 6 { dst := some 56, op := .load 30 (.tmp 8), type := 30, pos := "more.go:26", after := #[{ on := 3, ground := .guard }], guard := some (3, true) } ?_
          try simp only [Act.put, List.setIfInBounds_toArray, List.set_cons_zero, List.set_cons_succ]
          refine tu 7 { dst := some 57, op := .call { callee := .value (.func 17), args := #[.tmp 56], argTypes := #[30] }, type := 3, pos := "more.go:26", after := #[{ on := 6, ground := .data }, { on := 5, ground := .chain }, { on := 3, ground := .guard }], guard := some (3, true) } ?_
          try simp only [Act.put, List.setIfInBounds_toArray, List.set_cons_zero, List.set_cons_succ]
          refine tu 8 { dst := some 58, op := .binOp .eql 3 (.tmp 55) (.tmp 57) 3, type := 4, pos := "more.go:26", after := #[{ on := 5, ground := .data }, { on := 7, ground := .data }, { on := 3, ground := .guard }], guard := some (3, true) } ?_
          try simp only [Act.put, List.setIfInBounds_toArray, List.set_cons_zero, List.set_cons_succ]
          refine tk 9 { dst := some 59, op := .pick (.tmp 53) (.tmp 58) (.const (.bool false)), type := 4, pos := "more.go:26", after := #[{ on := 3, ground := .data }, { on := 8, ground := .data }], guard := none } _ ?_
          try simp only [Act.put, List.setIfInBounds_toArray, List.set_cons_zero, List.set_cons_succ]
          refine tk 10 { dst := some 14, op := .assign (.tmp 59), type := 4, pos := "more.go:26", after := #[{ on := 9, ground := .data }, { on := 7, ground := .chain }, { on := 0, ground := .phase }, { on := 1, ground := .phase }, { on := 2, ground := .phase }, { on := 3, ground := .phase }, { on := 4, ground := .phase }, { on := 5, ground := .phase }, { on := 6, ground := .phase }, { on := 7, ground := .phase }, { on := 8, ground := .phase }, { on := 9, ground := .phase }], guard := none } _ ?_
          try simp only [Act.put, List.setIfInBounds_toArray, List.set_cons_zero, List.set_cons_succ]
          refine wpAnyH_done (by kernel_rfl) ?_ _
          go_wp2_with (first | refine kit.ld_L rfl _ rfl rfl kA ?_ | refine kit.ld_L rfl _ rfl rfl kB ?_ | refine kit.ld_L rfl _ rfl rfl kC ?_)
          have CC := newer_any L1 L2 A11 n c11 A12 n2 c12 y17 y17.heap.size y17.heap.size R1 (Nat.le_refl _) R2 (Nat.le_refl _) c11h.out c12h.out F1.out F2.out
          rw [hp1.out] at CC
          refine (CC).mono ?_
          rintro e y18 ⟨rfl, hY⟩
          replace kA := kA.below hY kA.lt
          replace kB := kB.below hY kB.lt
          replace kC := kC.below hY kC.lt
          replace R1 := R1.on hY hY.size
          replace R2 := R2.on hY hY.size
          replace R3 := R3.on hY hY.size
          replace HB := HB.trans (hY.mono HB.size)
          clear hY
          clear CC
          go_wp2_with (first | refine kit.ld_L rfl _ rfl rfl kA ?_ | refine kit.ld_L rfl _ rfl rfl kB ?_ | refine kit.ld_L rfl _ rfl rfl kC ?_)
          have CC := newer_any L1 L2 A11 n c11 A12 n2 c12 y18 y18.heap.size y18.heap.size R1 (Nat.le_refl _) R2 (Nat.le_refl _) c11h.out c12h.out F1.out F2.out
          rw [hp1.out] at CC
          refine (CC).mono ?_
          rintro e y19 ⟨rfl, hY⟩
          replace kA := kA.below hY kA.lt
          replace kB := kB.below hY kB.lt
          replace kC := kC.below hY kC.lt
          replace R1 := R1.on hY hY.size
          replace R2 := R2.on hY hY.size
          replace R3 := R3.on hY hY.size
          replace HB := HB.trans (hY.mono HB.size)
          clear hY
          clear CC
          go_wp2_with (first | refine kit.ld_L rfl _ rfl rfl kA ?_ | refine kit.ld_L rfl _ rfl rfl kB ?_ | refine kit.ld_L rfl _ rfl rfl kC ?_)
          have CC := newer_any L2 L1 A12 n2 c12 A11 n c11 y19 y19.heap.size y19.heap.size R2 (Nat.le_refl _) R1 (Nat.le_refl _) c12h.out c11h.out F2.out F1.out
          rw [hq1.out] at CC
          refine (CC).mono ?_
          rintro e y20 ⟨rfl, hY⟩
          replace kA := kA.below hY kA.lt
          replace kB := kB.below hY kB.lt
          replace kC := kC.below hY kC.lt
          replace R1 := R1.on hY hY.size
          replace R2 := R2.on hY hY.size
          replace R3 := R3.on hY hY.size
          replace HB := HB.trans (hY.mono HB.size)
          clear hY
          clear CC
          go_wp2_with (first | refine kit.ld_L rfl _ rfl rfl kA ?_ | refine kit.ld_L rfl _ rfl rfl kB ?_ | refine kit.ld_L rfl _ rfl rfl kC ?_)
          have CC := newer_any L1 L2 A11 n c11 A12 n2 c12 y20 y20.heap.size y20.heap.size R1 (Nat.le_refl _) R2 (Nat.le_refl _) c11h.out c12h.out F1.out F2.out
          rw [hp1.out] at CC
          refine (CC).mono ?_
          rintro e y21 ⟨rfl, hY⟩
          replace kA := kA.below hY kA.lt
          replace kB := kB.below hY kB.lt
          replace kC := kC.below hY kC.lt
          replace R1 := R1.on hY hY.size
          replace R2 := R2.on hY hY.size
          replace R3 := R3.on hY hY.size
          replace HB := HB.trans (hY.mono HB.size)
          clear hY
          clear CC
          go_wp2_with (first | refine kit.ld_L rfl _ rfl rfl kA ?_ | refine kit.ld_L rfl _ rfl rfl kB ?_ | refine kit.ld_L rfl _ rfl rfl kC ?_)
          have CC := newer_any L2 L3 A12 n2 c12 A13 n3 c13 y21 y21.heap.size y21.heap.size R2 (Nat.le_refl _) R3 (Nat.le_refl _) c12h.out c13h.out F2.out F3.out
          rw [hr1.out] at CC
          refine (CC).mono ?_
          rintro e y22 ⟨rfl, hY⟩
          replace kA := kA.below hY kA.lt
          replace kB := kB.below hY kB.lt
          replace kC := kC.below hY kC.lt
          replace R1 := R1.on hY hY.size
          replace R2 := R2.on hY hY.size
          replace R3 := R3.on hY hY.size
          replace HB := HB.trans (hY.mono HB.size)
          clear hY
          clear CC
          go_wp2_with (first | refine kit.ld_L rfl _ rfl rfl kA ?_ | refine kit.ld_L rfl _ rfl rfl kB ?_ | refine kit.ld_L rfl _ rfl rfl kC ?_)
          go_ret
          exact ⟨by first | rfl | simp, HB⟩
      · have hs2 := Hrs.out rfl rfl
        subst hs2
        by_cases hab : ta = tb
        · skip
          have hab2 : (ta == tb) = true := by simpa using hab
          have hXA : (la == lb) = false := by have h := HX.out; rw [hab2] at h; simpa using h.symm
          go_upto_region 8 with (first | refine kit.ld_L rfl _ rfl rfl kA ?_ | refine kit.ld_L rfl _ rfl rfl kB ?_ | refine kit.ld_L rfl _ rfl rfl kC ?_)
          refine wp_region_held_drew (S := fun wq => Blk 30 wq gkA (lgC L1 (.slice A11 n c11)) ∧ Blk 30 wq gkB (lgC L2 (.slice A12 n2 c12))) (by kernel_rfl) ?s_ord8A101 (fun hHeld => ?_)
          case s_ord8A101 => exact ⟨kA, kB⟩
          have hD := (Below.refl y16.heap.size y16).drew
          replace kA := kA.below hD kA.lt
          replace kB := kB.below hD kB.lt
          replace kC := kC.below hD kC.lt
          replace R1 := R1.on hD hD.size
          replace R2 := R2.on hD hD.size
          replace R3 := R3.on hD hD.size
          replace HB := HB.trans (hD.mono HB.size)
          clear hD
          generalize y16.drew = y17 at *
          refine tk 0 { dst := some 50, op := .move (.tmp 10), type := 3, pos := "more.go:26", after := #[], guard := none } _ ?_
          try simp only [Act.put, List.setIfInBounds_toArray, List.set_cons_zero, List.set_cons_succ]
          refine tk 1 { dst := some 51, op := .move (.tmp 12), type := 3, pos := "more.go:26", after := #[], guard := none } _ ?_
          try simp only [Act.put, List.setIfInBounds_toArray, List.set_cons_zero, List.set_cons_succ]
          refine tk 2 { dst := some 52, op := .binOp .eql 3 (.tmp 50) (.tmp 51) 3, type := 4, pos := "more.go:26", after := #[{ on := 0, ground := .data }, { on := 1, ground := .data }], guard := none } _ ?_
          try simp only [Act.put, List.setIfInBounds_toArray, List.set_cons_zero, List.set_cons_succ]
          refine tk 3 { dst := some 53, op := .move (.tmp 52), type := 4, pos := "more.go:26", after := #[{ on := 2, ground := .data }], guard := none } _ ?_
          try simp only [Act.put, List.setIfInBounds_toArray, List.set_cons_zero, List.set_cons_succ]
          refine tk 4 { dst := some 54, op := .load 30 (.tmp 7), type := 30, pos := "more.go:26", after := #[{ on := 3, ground := .guard }], guard := some (3, true) } _ ?_ (hy := fun wq hSw => kit.rld_L rfl rfl ((fun h => h.1) hSw))
          try simp only [Act.put, List.setIfInBounds_toArray, List.set_cons_zero, List.set_cons_succ]
          refine tk 6 { dst := some 56, op := .load 30 (.tmp 8), type := 30, pos := "more.go:26", after := #[{ on := 3, ground := .guard }], guard := some (3, true) } _ ?_ (hy := fun wq hSw => kit.rld_L rfl rfl ((fun h => h.2) hSw))
          try simp only [Act.put, List.setIfInBounds_toArray, List.set_cons_zero, List.set_cons_succ]
          refine wpAnyH_ready (rs := [5]) (by kernel_rfl) (by simp) ?_
          refine AllReadyH.cons (o := { dst := some 55, op := .call { callee := .value (.func 17), args := #[.tmp 54], argTypes := #[30] }, type := 3, pos := "more.go:26", after := #[{ on := 4, ground := .data }, { on := 3, ground := .chain }, { on := 3, ground := .guard }], guard := some (3, true) }) rfl (fun KQ hKQ => ?_) AllReadyH.nil
          go_simp
          have CC := enti.last_any L1 A11 n c11 y17 R1.1 F1.out
          rw [hla.out] at CC
          refine (CC).mono ?_
          rintro e y18 ⟨rfl, hY⟩
          replace kA := kA.below hY kA.lt
          replace kB := kB.below hY kB.lt
          replace kC := kC.below hY kC.lt
          replace R1 := R1.on hY hY.size
          replace R2 := R2.on hY hY.size
          replace R3 := R3.on hY hY.size
          replace HB := HB.trans (hY.mono HB.size)
          clear hY
          clear CC
          go_wp2_with fail
          refine hKQ.out _ _ ?s_5 (fun hHeld5 => ?_)
          case s_5 => exact ⟨kA, kB⟩
          clear hKQ KQ
          try simp only [Act.put, List.setIfInBounds_toArray, List.set_cons_zero, List.set_cons_succ]
          refine wpAnyH_ready (rs := [7]) (by kernel_rfl) (by simp) ?_
          refine AllReadyH.cons (o := { dst := some 57, op := .call { callee := .value (.func 17), args := #[.tmp 56], argTypes := #[30] }, type := 3, pos := "more.go:26", after := #[{ on := 6, ground := .data }, { on := 5, ground := .chain }, { on := 3, ground := .guard }], guard := some (3, true) }) rfl (fun KQ hKQ => ?_) AllReadyH.nil
          go_simp
          have CC := enti.last_any L2 A12 n2 c12 y18 R2.1 F2.out
          rw [hlb.out] at CC
          refine (CC).mono ?_
          rintro e y19 ⟨rfl, hY⟩
          replace kA := kA.below hY kA.lt
          replace kB := kB.below hY kB.lt
          replace kC := kC.below hY kC.lt
          replace R1 := R1.on hY hY.size
          replace R2 := R2.on hY hY.size
          replace R3 := R3.on hY hY.size
          replace HB := HB.trans (hY.mono HB.size)
          clear hY
          clear CC
          go_wp2_with fail
          refine hKQ.out _ _ ?s_7 (fun hHeld7 => ?_)
          case s_7 => exact ⟨kA, kB⟩
          clear hKQ KQ
          try simp only [Act.put, List.setIfInBounds_toArray, List.set_cons_zero, List.set_cons_succ]
          refine tk 8 { dst := some 58, op := .binOp .eql 3 (.tmp 55) (.tmp 57) 3, type := 4, pos := "more.go:26", after := #[{ on := 5, ground := .data }, { on := 7, ground := .data }, { on := 3, ground := .guard }], guard := some (3, true) } _ ?_
          try simp only [Act.put, List.setIfInBounds_toArray, List.set_cons_zero, List.set_cons_succ]
          refine tk 9 { dst := some 59, op := .pick (.tmp 53) (.tmp 58) (.const (.bool false)), type := 4, pos := "more.go:26", after := #[{ on := 3, ground := .data }, { on := 8, ground := .data }], guard := none } _ ?_
          try simp only [Act.put, List.setIfInBounds_toArray, List.set_cons_zero, List.set_cons_succ]
          refine tk 10 { dst := some 14, op := .assign (.tmp 59), type := 4, pos := "more.go:26", after := #[{ on := 9, ground := .data }, { on := 7, ground := .chain }, { on := 0, ground := .phase }, { on := 1, ground := .phase }, { on := 2, ground := .phase }, { on := 3, ground := .phase }, { on := 4, ground := .phase }, { on := 5, ground := .phase }, { on := 6, ground := .phase }, { on := 7, ground := .phase }, { on := 8, ground := .phase }, { on := 9, ground := .phase }], guard := none } _ ?_
          try simp only [Act.put, List.setIfInBounds_toArray, List.set_cons_zero, List.set_cons_succ]
          refine wpAnyH_done (by kernel_rfl) ?_ _
          go_wp2_with (first | refine kit.ld_L rfl _ rfl rfl kA ?_ | refine kit.ld_L rfl _ rfl rfl kB ?_ | refine kit.ld_L rfl _ rfl rfl kC ?_)
          have CC := newer_any L1 L2 A11 n c11 A12 n2 c12 y19 y19.heap.size y19.heap.size R1 (Nat.le_refl _) R2 (Nat.le_refl _) c11h.out c12h.out F1.out F2.out
          rw [hp1.out] at CC
          refine (CC).mono ?_
          rintro e y20 ⟨rfl, hY⟩
          replace kA := kA.below hY kA.lt
          replace kB := kB.below hY kB.lt
          replace kC := kC.below hY kC.lt
          replace R1 := R1.on hY hY.size
          replace R2 := R2.on hY hY.size
          replace R3 := R3.on hY hY.size
          replace HB := HB.trans (hY.mono HB.size)
          clear hY
          clear CC
          go_wp2_with (first | refine kit.ld_L rfl _ rfl rfl kA ?_ | refine kit.ld_L rfl _ rfl rfl kB ?_ | refine kit.ld_L rfl _ rfl rfl kC ?_)
          have CC := newer_any L1 L2 A11 n c11 A12 n2 c12 y20 y20.heap.size y20.heap.size R1 (Nat.le_refl _) R2 (Nat.le_refl _) c11h.out c12h.out F1.out F2.out
          rw [hp1.out] at CC
          refine (CC).mono ?_
          rintro e y21 ⟨rfl, hY⟩
          replace kA := kA.below hY kA.lt
          replace kB := kB.below hY kB.lt
          replace kC := kC.below hY kC.lt
          replace R1 := R1.on hY hY.size
          replace R2 := R2.on hY hY.size
          replace R3 := R3.on hY hY.size
          replace HB := HB.trans (hY.mono HB.size)
          clear hY
          clear CC
          go_wp2_with (first | refine kit.ld_L rfl _ rfl rfl kA ?_ | refine kit.ld_L rfl _ rfl rfl kB ?_ | refine kit.ld_L rfl _ rfl rfl kC ?_)
          have CC := newer_any L2 L1 A12 n2 c12 A11 n c11 y21 y21.heap.size y21.heap.size R2 (Nat.le_refl _) R1 (Nat.le_refl _) c12h.out c11h.out F2.out F1.out
          rw [hq1.out] at CC
          refine (CC).mono ?_
          rintro e y22 ⟨rfl, hY⟩
          replace kA := kA.below hY kA.lt
          replace kB := kB.below hY kB.lt
          replace kC := kC.below hY kC.lt
          replace R1 := R1.on hY hY.size
          replace R2 := R2.on hY hY.size
          replace R3 := R3.on hY hY.size
          replace HB := HB.trans (hY.mono HB.size)
          clear hY
          clear CC
          go_wp2_with (first | refine kit.ld_L rfl _ rfl rfl kA ?_ | refine kit.ld_L rfl _ rfl rfl kB ?_ | refine kit.ld_L rfl _ rfl rfl kC ?_)
          have CC := newer_any L1 L2 A11 n c11 A12 n2 c12 y22 y22.heap.size y22.heap.size R1 (Nat.le_refl _) R2 (Nat.le_refl _) c11h.out c12h.out F1.out F2.out
          rw [hp1.out] at CC
          refine (CC).mono ?_
          rintro e y23 ⟨rfl, hY⟩
          replace kA := kA.below hY kA.lt
          replace kB := kB.below hY kB.lt
          replace kC := kC.below hY kC.lt
          replace R1 := R1.on hY hY.size
          replace R2 := R2.on hY hY.size
          replace R3 := R3.on hY hY.size
          replace HB := HB.trans (hY.mono HB.size)
          clear hY
          clear CC
          go_wp2_with (first | refine kit.ld_L rfl _ rfl rfl kA ?_ | refine kit.ld_L rfl _ rfl rfl kB ?_ | refine kit.ld_L rfl _ rfl rfl kC ?_)
          have CC := newer_any L2 L3 A12 n2 c12 A13 n3 c13 y23 y23.heap.size y23.heap.size R2 (Nat.le_refl _) R3 (Nat.le_refl _) c12h.out c13h.out F2.out F3.out
          rw [hr1.out] at CC
          refine (CC).mono ?_
          rintro e y24 ⟨rfl, hY⟩
          replace kA := kA.below hY kA.lt
          replace kB := kB.below hY kB.lt
          replace kC := kC.below hY kC.lt
          replace R1 := R1.on hY hY.size
          replace R2 := R2.on hY hY.size
          replace R3 := R3.on hY hY.size
          replace HB := HB.trans (hY.mono HB.size)
          clear hY
          clear CC
          go_wp2_with (first | refine kit.ld_L rfl _ rfl rfl kA ?_ | refine kit.ld_L rfl _ rfl rfl kB ?_ | refine kit.ld_L rfl _ rfl rfl kC ?_)
          have CC := newer_any L1 L3 A11 n c11 A13 n3 c13 y24 y24.heap.size y24.heap.size R1 (Nat.le_refl _) R3 (Nat.le_refl _) c11h.out c13h.out F1.out F3.out
          rw [hs1.out] at CC
          refine (CC).mono ?_
          rintro e y25 ⟨rfl, hY⟩
          replace kA := kA.below hY kA.lt
          replace kB := kB.below hY kB.lt
          replace kC := kC.below hY kC.lt
          replace R1 := R1.on hY hY.size
          replace R2 := R2.on hY hY.size
          replace R3 := R3.on hY hY.size
          replace HB := HB.trans (hY.mono HB.size)
          clear hY
          clear CC
          go_wp2_with (first | refine kit.ld_L rfl _ rfl rfl kA ?_ | refine kit.ld_L rfl _ rfl rfl kB ?_ | refine kit.ld_L rfl _ rfl rfl kC ?_)
          go_ret
          exact ⟨by first | rfl | simp, HB⟩
        · skip
          have hab2 : (ta == tb) = false := by simpa using hab
          go_upto_region 8 with (first | refine kit.ld_L rfl _ rfl rfl kA ?_ | refine kit.ld_L rfl _ rfl rfl kB ?_ | refine kit.ld_L rfl _ rfl rfl kC ?_)
          refine wp_region_held_drew (S := fun wq => Blk 30 wq gkA (lgC L1 (.slice A11 n c11)) ∧ Blk 30 wq gkB (lgC L2 (.slice A12 n2 c12))) (by kernel_rfl) ?s_ord8B101 (fun hHeld => ?_)
          case s_ord8B101 => exact ⟨kA, kB⟩
          have hD := (Below.refl y16.heap.size y16).drew
          replace kA := kA.below hD kA.lt
          replace kB := kB.below hD kB.lt
          replace kC := kC.below hD kC.lt
          replace R1 := R1.on hD hD.size
          replace R2 := R2.on hD hD.size
          replace R3 := R3.on hD hD.size
          replace HB := HB.trans (hD.mono HB.size)
          clear hD
          generalize y16.drew = y17 at *
          refine tk 0 { dst := some 50, op := .move (.tmp 10), type := 3, pos := "more.go:26", after := #[], guard := none } _ ?_
          try simp only [Act.put, List.setIfInBounds_toArray, List.set_cons_zero, List.set_cons_succ]
          refine tk 1 { dst := some 51, op := .move (.tmp 12), type := 3, pos := "more.go:26", after := #[], guard := none } _ ?_
          try simp only [Act.put, List.setIfInBounds_toArray, List.set_cons_zero, List.set_cons_succ]
          refine tk 2 { dst := some 52, op := .binOp .eql 3 (.tmp 50) (.tmp 51) 3, type := 4, pos := "more.go:26", after := #[{ on := 0, ground := .data }, { on := 1, ground := .data }], guard := none } _ ?_
          try simp only [Act.put, List.setIfInBounds_toArray, List.set_cons_zero, List.set_cons_succ]
          refine tk 3 { dst := some 53, op := .move (.tmp 52), type := 4, pos := "more.go:26", after := #[{ on := 2, ground := .data }], guard := none } _ ?_
          try simp only [Act.put, List.setIfInBounds_toArray, List.set_cons_zero, List.set_cons_succ]
          refine tu 4 { dst := some 54, op := .load 30 (.tmp 7), type := 30, pos := "more.go:26", after := #[{ on := 3, ground := .guard }], guard := some (3, true) } ?_
          try simp only [Act.put, List.setIfInBounds_toArray, List.set_cons_zero, List.set_cons_succ]
          refine tu 5 { dst := some 55, op := .call { callee := .value (.func 17), args := #[.tmp 54], argTypes := #[30] }, type := 3, pos := "more.go:26", after := #[{ on := 4, ground := .data }, { on := 3, ground := .chain }, { on := 3, ground := .guard }], guard := some (3, true) } ?_
          try simp only [Act.put, List.setIfInBounds_toArray, List.set_cons_zero, List.set_cons_succ]
          refine tu 6 { dst := some 56, op := .load 30 (.tmp 8), type := 30, pos := "more.go:26", after := #[{ on := 3, ground := .guard }], guard := some (3, true) } ?_
          try simp only [Act.put, List.setIfInBounds_toArray, List.set_cons_zero, List.set_cons_succ]
          refine tu 7 { dst := some 57, op := .call { callee := .value (.func 17), args := #[.tmp 56], argTypes := #[30] }, type := 3, pos := "more.go:26", after := #[{ on := 6, ground := .data }, { on := 5, ground := .chain }, { on := 3, ground := .guard }], guard := some (3, true) } ?_
          try simp only [Act.put, List.setIfInBounds_toArray, List.set_cons_zero, List.set_cons_succ]
          refine tu 8 { dst := some 58, op := .binOp .eql 3 (.tmp 55) (.tmp 57) 3, type := 4, pos := "more.go:26", after := #[{ on := 5, ground := .data }, { on := 7, ground := .data }, { on := 3, ground := .guard }], guard := some (3, true) } ?_
          try simp only [Act.put, List.setIfInBounds_toArray, List.set_cons_zero, List.set_cons_succ]
          refine tk 9 { dst := some 59, op := .pick (.tmp 53) (.tmp 58) (.const (.bool false)), type := 4, pos := "more.go:26", after := #[{ on := 3, ground := .data }, { on := 8, ground := .data }], guard := none } _ ?_
          try simp only [Act.put, List.setIfInBounds_toArray, List.set_cons_zero, List.set_cons_succ]
          refine tk 10 { dst := some 14, op := .assign (.tmp 59), type := 4, pos := "more.go:26", after := #[{ on := 9, ground := .data }, { on := 7, ground := .chain }, { on := 0, ground := .phase }, { on := 1, ground := .phase }, { on := 2, ground := .phase }, { on := 3, ground := .phase }, { on := 4, ground := .phase }, { on := 5, ground := .phase }, { on := 6, ground := .phase }, { on := 7, ground := .phase }, { on := 8, ground := .phase }, { on := 9, ground := .phase }], guard := none } _ ?_
          try simp only [Act.put, List.setIfInBounds_toArray, List.set_cons_zero, List.set_cons_succ]
          refine wpAnyH_done (by kernel_rfl) ?_ _
          go_wp2_with (first | refine kit.ld_L rfl _ rfl rfl kA ?_ | refine kit.ld_L rfl _ rfl rfl kB ?_ | refine kit.ld_L rfl _ rfl rfl kC ?_)
          have CC := newer_any L1 L2 A11 n c11 A12 n2 c12 y17 y17.heap.size y17.heap.size R1 (Nat.le_refl _) R2 (Nat.le_refl _) c11h.out c12h.out F1.out F2.out
          rw [hp1.out] at CC
          refine (CC).mono ?_
          rintro e y18 ⟨rfl, hY⟩
          replace kA := kA.below hY kA.lt
          replace kB := kB.below hY kB.lt
          replace kC := kC.below hY kC.lt
          replace R1 := R1.on hY hY.size
          replace R2 := R2.on hY hY.size
          replace R3 := R3.on hY hY.size
          replace HB := HB.trans (hY.mono HB.size)
          clear hY
          clear CC
          go_wp2_with (first | refine kit.ld_L rfl _ rfl rfl kA ?_ | refine kit.ld_L rfl _ rfl rfl kB ?_ | refine kit.ld_L rfl _ rfl rfl kC ?_)
          have CC := newer_any L1 L2 A11 n c11 A12 n2 c12 y18 y18.heap.size y18.heap.size R1 (Nat.le_refl _) R2 (Nat.le_refl _) c11h.out c12h.out F1.out F2.out
          rw [hp1.out] at CC
          refine (CC).mono ?_
          rintro e y19 ⟨rfl, hY⟩
          replace kA := kA.below hY kA.lt
          replace kB := kB.below hY kB.lt
          replace kC := kC.below hY kC.lt
          replace R1 := R1.on hY hY.size
          replace R2 := R2.on hY hY.size
          replace R3 := R3.on hY hY.size
          replace HB := HB.trans (hY.mono HB.size)
          clear hY
          clear CC
          go_wp2_with (first | refine kit.ld_L rfl _ rfl rfl kA ?_ | refine kit.ld_L rfl _ rfl rfl kB ?_ | refine kit.ld_L rfl _ rfl rfl kC ?_)
          have CC := newer_any L2 L1 A12 n2 c12 A11 n c11 y19 y19.heap.size y19.heap.size R2 (Nat.le_refl _) R1 (Nat.le_refl _) c12h.out c11h.out F2.out F1.out
          rw [hq1.out] at CC
          refine (CC).mono ?_
          rintro e y20 ⟨rfl, hY⟩
          replace kA := kA.below hY kA.lt
          replace kB := kB.below hY kB.lt
          replace kC := kC.below hY kC.lt
          replace R1 := R1.on hY hY.size
          replace R2 := R2.on hY hY.size
          replace R3 := R3.on hY hY.size
          replace HB := HB.trans (hY.mono HB.size)
          clear hY
          clear CC
          go_wp2_with (first | refine kit.ld_L rfl _ rfl rfl kA ?_ | refine kit.ld_L rfl _ rfl rfl kB ?_ | refine kit.ld_L rfl _ rfl rfl kC ?_)
          have CC := newer_any L1 L2 A11 n c11 A12 n2 c12 y20 y20.heap.size y20.heap.size R1 (Nat.le_refl _) R2 (Nat.le_refl _) c11h.out c12h.out F1.out F2.out
          rw [hp1.out] at CC
          refine (CC).mono ?_
          rintro e y21 ⟨rfl, hY⟩
          replace kA := kA.below hY kA.lt
          replace kB := kB.below hY kB.lt
          replace kC := kC.below hY kC.lt
          replace R1 := R1.on hY hY.size
          replace R2 := R2.on hY hY.size
          replace R3 := R3.on hY hY.size
          replace HB := HB.trans (hY.mono HB.size)
          clear hY
          clear CC
          go_wp2_with (first | refine kit.ld_L rfl _ rfl rfl kA ?_ | refine kit.ld_L rfl _ rfl rfl kB ?_ | refine kit.ld_L rfl _ rfl rfl kC ?_)
          have CC := newer_any L2 L3 A12 n2 c12 A13 n3 c13 y21 y21.heap.size y21.heap.size R2 (Nat.le_refl _) R3 (Nat.le_refl _) c12h.out c13h.out F2.out F3.out
          rw [hr1.out] at CC
          refine (CC).mono ?_
          rintro e y22 ⟨rfl, hY⟩
          replace kA := kA.below hY kA.lt
          replace kB := kB.below hY kB.lt
          replace kC := kC.below hY kC.lt
          replace R1 := R1.on hY hY.size
          replace R2 := R2.on hY hY.size
          replace R3 := R3.on hY hY.size
          replace HB := HB.trans (hY.mono HB.size)
          clear hY
          clear CC
          go_wp2_with (first | refine kit.ld_L rfl _ rfl rfl kA ?_ | refine kit.ld_L rfl _ rfl rfl kB ?_ | refine kit.ld_L rfl _ rfl rfl kC ?_)
          have CC := newer_any L1 L3 A11 n c11 A13 n3 c13 y22 y22.heap.size y22.heap.size R1 (Nat.le_refl _) R3 (Nat.le_refl _) c11h.out c13h.out F1.out F3.out
          rw [hs1.out] at CC
          refine (CC).mono ?_
          rintro e y23 ⟨rfl, hY⟩
          replace kA := kA.below hY kA.lt
          replace kB := kB.below hY kB.lt
          replace kC := kC.below hY kC.lt
          replace R1 := R1.on hY hY.size
          replace R2 := R2.on hY hY.size
          replace R3 := R3.on hY hY.size
          replace HB := HB.trans (hY.mono HB.size)
          clear hY
          clear CC
          go_wp2_with (first | refine kit.ld_L rfl _ rfl rfl kA ?_ | refine kit.ld_L rfl _ rfl rfl kB ?_ | refine kit.ld_L rfl _ rfl rfl kC ?_)
          go_ret
          exact ⟨by first | rfl | simp, HB⟩
    · rcases r with _ | _
      · skip
        by_cases hab : ta = tb
        · skip
          have hab2 : (ta == tb) = true := by simpa using hab
          have hXA : (la == lb) = true := by have h := HX.out; rw [hab2] at h; simpa using h.symm
          go_upto_region 8 with (first | refine kit.ld_L rfl _ rfl rfl kA ?_ | refine kit.ld_L rfl _ rfl rfl kB ?_ | refine kit.ld_L rfl _ rfl rfl kC ?_)
          refine wp_region_held_drew (S := fun wq => Blk 30 wq gkA (lgC L1 (.slice A11 n c11)) ∧ Blk 30 wq gkB (lgC L2 (.slice A12 n2 c12))) (by kernel_rfl) ?s_ord8A110 (fun hHeld => ?_)
          case s_ord8A110 => exact ⟨kA, kB⟩
          have hD := (Below.refl y16.heap.size y16).drew
          replace kA := kA.below hD kA.lt
          replace kB := kB.below hD kB.lt
          replace kC := kC.below hD kC.lt
          replace R1 := R1.on hD hD.size
          replace R2 := R2.on hD hD.size
          replace R3 := R3.on hD hD.size
          replace HB := HB.trans (hD.mono HB.size)
          clear hD
          generalize y16.drew = y17 at *
          refine tk 0 { dst := some 50, op := .move (.tmp 10), type := 3, pos := "more.go:26", after := #[], guard := none } _ ?_
          try simp only [Act.put, List.setIfInBounds_toArray, List.set_cons_zero, List.set_cons_succ]
          refine tk 1 { dst := some 51, op := .move (.tmp 12), type := 3, pos := "more.go:26", after := #[], guard := none } _ ?_
          try simp only [Act.put, List.setIfInBounds_toArray, List.set_cons_zero, List.set_cons_succ]
          refine tk 2 { dst := some 52, op := .binOp .eql 3 (.tmp 50) (.tmp 51) 3, type := 4, pos := "more.go:26", after := #[{ on := 0, ground := .data }, { on := 1, ground := .data }], guard := none } _ ?_
          try simp only [Act.put, List.setIfInBounds_toArray, List.set_cons_zero, List.set_cons_succ]
          refine tk 3 { dst := some 53, op := .move (.tmp 52), type := 4, pos := "more.go:26", after := #[{ on := 2, ground := .data }], guard := none } _ ?_
          try simp only [Act.put, List.setIfInBounds_toArray, List.set_cons_zero, List.set_cons_succ]
          refine tk 4 { dst := some 54, op := .load 30 (.tmp 7), type := 30, pos := "more.go:26", after := #[{ on := 3, ground := .guard }], guard := some (3, true) } _ ?_ (hy := fun wq hSw => kit.rld_L rfl rfl ((fun h => h.1) hSw))
          try simp only [Act.put, List.setIfInBounds_toArray, List.set_cons_zero, List.set_cons_succ]
          refine tk 6 { dst := some 56, op := .load 30 (.tmp 8), type := 30, pos := "more.go:26", after := #[{ on := 3, ground := .guard }], guard := some (3, true) } _ ?_ (hy := fun wq hSw => kit.rld_L rfl rfl ((fun h => h.2) hSw))
          try simp only [Act.put, List.setIfInBounds_toArray, List.set_cons_zero, List.set_cons_succ]
          refine wpAnyH_ready (rs := [5]) (by kernel_rfl) (by simp) ?_
          refine AllReadyH.cons (o := { dst := some 55, op := .call { callee := .value (.func 17), args := #[.tmp 54], argTypes := #[30] }, type := 3, pos := "more.go:26", after := #[{ on := 4, ground := .data }, { on := 3, ground := .chain }, { on := 3, ground := .guard }], guard := some (3, true) }) rfl (fun KQ hKQ => ?_) AllReadyH.nil
          go_simp
          have CC := enti.last_any L1 A11 n c11 y17 R1.1 F1.out
          rw [hla.out] at CC
          refine (CC).mono ?_
          rintro e y18 ⟨rfl, hY⟩
          replace kA := kA.below hY kA.lt
          replace kB := kB.below hY kB.lt
          replace kC := kC.below hY kC.lt
          replace R1 := R1.on hY hY.size
          replace R2 := R2.on hY hY.size
          replace R3 := R3.on hY hY.size
          replace HB := HB.trans (hY.mono HB.size)
          clear hY
          clear CC
          go_wp2_with fail
          refine hKQ.out _ _ ?s_5 (fun hHeld5 => ?_)
          case s_5 => exact ⟨kA, kB⟩
          clear hKQ KQ
          try simp only [Act.put, List.setIfInBounds_toArray, List.set_cons_zero, List.set_cons_succ]
          refine wpAnyH_ready (rs := [7]) (by kernel_rfl) (by simp) ?_
          refine AllReadyH.cons (o := { dst := some 57, op := .call { callee := .value (.func 17), args := #[.tmp 56], argTypes := #[30] }, type := 3, pos := "more.go:26", after := #[{ on := 6, ground := .data }, { on := 5, ground := .chain }, { on := 3, ground := .guard }], guard := some (3, true) }) rfl (fun KQ hKQ => ?_) AllReadyH.nil
          go_simp
          have CC := enti.last_any L2 A12 n2 c12 y18 R2.1 F2.out
          rw [hlb.out] at CC
          refine (CC).mono ?_
          rintro e y19 ⟨rfl, hY⟩
          replace kA := kA.below hY kA.lt
          replace kB := kB.below hY kB.lt
          replace kC := kC.below hY kC.lt
          replace R1 := R1.on hY hY.size
          replace R2 := R2.on hY hY.size
          replace R3 := R3.on hY hY.size
          replace HB := HB.trans (hY.mono HB.size)
          clear hY
          clear CC
          go_wp2_with fail
          refine hKQ.out _ _ ?s_7 (fun hHeld7 => ?_)
          case s_7 => exact ⟨kA, kB⟩
          clear hKQ KQ
          try simp only [Act.put, List.setIfInBounds_toArray, List.set_cons_zero, List.set_cons_succ]
          refine tk 8 { dst := some 58, op := .binOp .eql 3 (.tmp 55) (.tmp 57) 3, type := 4, pos := "more.go:26", after := #[{ on := 5, ground := .data }, { on := 7, ground := .data }, { on := 3, ground := .guard }], guard := some (3, true) } _ ?_
          try simp only [Act.put, List.setIfInBounds_toArray, List.set_cons_zero, List.set_cons_succ]
          refine tk 9 { dst := some 59, op := .pick (.tmp 53) (.tmp 58) (.const (.bool false)), type := 4, pos := "more.go:26", after := #[{ on := 3, ground := .data }, { on := 8, ground := .data }], guard := none } _ ?_
          try simp only [Act.put, List.setIfInBounds_toArray, List.set_cons_zero, List.set_cons_succ]
          refine tk 10 { dst := some 14, op := .assign (.tmp 59), type := 4, pos := "more.go:26", after := #[{ on := 9, ground := .data }, { on := 7, ground := .chain }, { on := 0, ground := .phase }, { on := 1, ground := .phase }, { on := 2, ground := .phase }, { on := 3, ground := .phase }, { on := 4, ground := .phase }, { on := 5, ground := .phase }, { on := 6, ground := .phase }, { on := 7, ground := .phase }, { on := 8, ground := .phase }, { on := 9, ground := .phase }], guard := none } _ ?_
          try simp only [Act.put, List.setIfInBounds_toArray, List.set_cons_zero, List.set_cons_succ]
          refine wpAnyH_done (by kernel_rfl) ?_ _
          go_wp2_with (first | refine kit.ld_L rfl _ rfl rfl kA ?_ | refine kit.ld_L rfl _ rfl rfl kB ?_ | refine kit.ld_L rfl _ rfl rfl kC ?_)
          have CC := newer_any L1 L2 A11 n c11 A12 n2 c12 y19 y19.heap.size y19.heap.size R1 (Nat.le_refl _) R2 (Nat.le_refl _) c11h.out c12h.out F1.out F2.out
          rw [hp1.out] at CC
          refine (CC).mono ?_
          rintro e y20 ⟨rfl, hY⟩
          replace kA := kA.below hY kA.lt
          replace kB := kB.below hY kB.lt
          replace kC := kC.below hY kC.lt
          replace R1 := R1.on hY hY.size
          replace R2 := R2.on hY hY.size
          replace R3 := R3.on hY hY.size
          replace HB := HB.trans (hY.mono HB.size)
          clear hY
          clear CC
          go_wp2_with (first | refine kit.ld_L rfl _ rfl rfl kA ?_ | refine kit.ld_L rfl _ rfl rfl kB ?_ | refine kit.ld_L rfl _ rfl rfl kC ?_)
          have CC := newer_any L1 L2 A11 n c11 A12 n2 c12 y20 y20.heap.size y20.heap.size R1 (Nat.le_refl _) R2 (Nat.le_refl _) c11h.out c12h.out F1.out F2.out
          rw [hp1.out] at CC
          refine (CC).mono ?_
          rintro e y21 ⟨rfl, hY⟩
          replace kA := kA.below hY kA.lt
          replace kB := kB.below hY kB.lt
          replace kC := kC.below hY kC.lt
          replace R1 := R1.on hY hY.size
          replace R2 := R2.on hY hY.size
          replace R3 := R3.on hY hY.size
          replace HB := HB.trans (hY.mono HB.size)
          clear hY
          clear CC
          go_wp2_with (first | refine kit.ld_L rfl _ rfl rfl kA ?_ | refine kit.ld_L rfl _ rfl rfl kB ?_ | refine kit.ld_L rfl _ rfl rfl kC ?_)
          have CC := newer_any L2 L1 A12 n2 c12 A11 n c11 y21 y21.heap.size y21.heap.size R2 (Nat.le_refl _) R1 (Nat.le_refl _) c12h.out c11h.out F2.out F1.out
          rw [hq1.out] at CC
          refine (CC).mono ?_
          rintro e y22 ⟨rfl, hY⟩
          replace kA := kA.below hY kA.lt
          replace kB := kB.below hY kB.lt
          replace kC := kC.below hY kC.lt
          replace R1 := R1.on hY hY.size
          replace R2 := R2.on hY hY.size
          replace R3 := R3.on hY hY.size
          replace HB := HB.trans (hY.mono HB.size)
          clear hY
          clear CC
          go_wp2_with (first | refine kit.ld_L rfl _ rfl rfl kA ?_ | refine kit.ld_L rfl _ rfl rfl kB ?_ | refine kit.ld_L rfl _ rfl rfl kC ?_)
          have CC := newer_any L1 L2 A11 n c11 A12 n2 c12 y22 y22.heap.size y22.heap.size R1 (Nat.le_refl _) R2 (Nat.le_refl _) c11h.out c12h.out F1.out F2.out
          rw [hp1.out] at CC
          refine (CC).mono ?_
          rintro e y23 ⟨rfl, hY⟩
          replace kA := kA.below hY kA.lt
          replace kB := kB.below hY kB.lt
          replace kC := kC.below hY kC.lt
          replace R1 := R1.on hY hY.size
          replace R2 := R2.on hY hY.size
          replace R3 := R3.on hY hY.size
          replace HB := HB.trans (hY.mono HB.size)
          clear hY
          clear CC
          go_wp2_with (first | refine kit.ld_L rfl _ rfl rfl kA ?_ | refine kit.ld_L rfl _ rfl rfl kB ?_ | refine kit.ld_L rfl _ rfl rfl kC ?_)
          have CC := newer_any L2 L3 A12 n2 c12 A13 n3 c13 y23 y23.heap.size y23.heap.size R2 (Nat.le_refl _) R3 (Nat.le_refl _) c12h.out c13h.out F2.out F3.out
          rw [hr1.out] at CC
          refine (CC).mono ?_
          rintro e y24 ⟨rfl, hY⟩
          replace kA := kA.below hY kA.lt
          replace kB := kB.below hY kB.lt
          replace kC := kC.below hY kC.lt
          replace R1 := R1.on hY hY.size
          replace R2 := R2.on hY hY.size
          replace R3 := R3.on hY hY.size
          replace HB := HB.trans (hY.mono HB.size)
          clear hY
          clear CC
          go_wp2_with (first | refine kit.ld_L rfl _ rfl rfl kA ?_ | refine kit.ld_L rfl _ rfl rfl kB ?_ | refine kit.ld_L rfl _ rfl rfl kC ?_)
          go_ret
          exact ⟨by first | rfl | simp, HB⟩
        · skip
          exact absurd HX.out (by simp [hab])
      · have hs2 := Hrs.out rfl rfl
        subst hs2
        by_cases hab : ta = tb
        · skip
          have hab2 : (ta == tb) = true := by simpa using hab
          have hXA : (la == lb) = true := by have h := HX.out; rw [hab2] at h; simpa using h.symm
          go_upto_region 8 with (first | refine kit.ld_L rfl _ rfl rfl kA ?_ | refine kit.ld_L rfl _ rfl rfl kB ?_ | refine kit.ld_L rfl _ rfl rfl kC ?_)
          refine wp_region_held_drew (S := fun wq => Blk 30 wq gkA (lgC L1 (.slice A11 n c11)) ∧ Blk 30 wq gkB (lgC L2 (.slice A12 n2 c12))) (by kernel_rfl) ?s_ord8A111 (fun hHeld => ?_)
          case s_ord8A111 => exact ⟨kA, kB⟩
          have hD := (Below.refl y16.heap.size y16).drew
          replace kA := kA.below hD kA.lt
          replace kB := kB.below hD kB.lt
          replace kC := kC.below hD kC.lt
          replace R1 := R1.on hD hD.size
          replace R2 := R2.on hD hD.size
          replace R3 := R3.on hD hD.size
          replace HB := HB.trans (hD.mono HB.size)
          clear hD
          generalize y16.drew = y17 at *
          refine tk 0 { dst := some 50, op := .move (.tmp 10), type := 3, pos := "more.go:26", after := #[], guard := none } _ ?_
          try simp only [Act.put, List.setIfInBounds_toArray, List.set_cons_zero, List.set_cons_succ]
          refine tk 1 { dst := some 51, op := .move (.tmp 12), type := 3, pos := "more.go:26", after := #[], guard := none } _ ?_
          try simp only [Act.put, List.setIfInBounds_toArray, List.set_cons_zero, List.set_cons_succ]
          refine tk 2 { dst := some 52, op := .binOp .eql 3 (.tmp 50) (.tmp 51) 3, type := 4, pos := "more.go:26", after := #[{ on := 0, ground := .data }, { on := 1, ground := .data }], guard := none } _ ?_
          try simp only [Act.put, List.setIfInBounds_toArray, List.set_cons_zero, List.set_cons_succ]
          refine tk 3 { dst := some 53, op := .move (.tmp 52), type := 4, pos := "more.go:26", after := #[{ on := 2, ground := .data }], guard := none } _ ?_
          try simp only [Act.put, List.setIfInBounds_toArray, List.set_cons_zero, List.set_cons_succ]
          refine tk 4 { dst := some 54, op := .load 30 (.tmp 7), type := 30, pos := "more.go:26", after := #[{ on := 3, ground := .guard }], guard := some (3, true) } _ ?_ (hy := fun wq hSw => kit.rld_L rfl rfl ((fun h => h.1) hSw))
          try simp only [Act.put, List.setIfInBounds_toArray, List.set_cons_zero, List.set_cons_succ]
          refine tk 6 { dst := some 56, op := .load 30 (.tmp 8), type := 30, pos := "more.go:26", after := #[{ on := 3, ground := .guard }], guard := some (3, true) } _ ?_ (hy := fun wq hSw => kit.rld_L rfl rfl ((fun h => h.2) hSw))
          try simp only [Act.put, List.setIfInBounds_toArray, List.set_cons_zero, List.set_cons_succ]
          refine wpAnyH_ready (rs := [5]) (by kernel_rfl) (by simp) ?_
          refine AllReadyH.cons (o := { dst := some 55, op := .call { callee := .value (.func 17), args := #[.tmp 54], argTypes := #[30] }, type := 3, pos := "more.go:26", after := #[{ on := 4, ground := .data }, { on := 3, ground := .chain }, { on := 3, ground := .guard }], guard := some (3, true) }) rfl (fun KQ hKQ => ?_) AllReadyH.nil
          go_simp
          have CC := enti.last_any L1 A11 n c11 y17 R1.1 F1.out
          rw [hla.out] at CC
          refine (CC).mono ?_
          rintro e y18 ⟨rfl, hY⟩
          replace kA := kA.below hY kA.lt
          replace kB := kB.below hY kB.lt
          replace kC := kC.below hY kC.lt
          replace R1 := R1.on hY hY.size
          replace R2 := R2.on hY hY.size
          replace R3 := R3.on hY hY.size
          replace HB := HB.trans (hY.mono HB.size)
          clear hY
          clear CC
          go_wp2_with fail
          refine hKQ.out _ _ ?s_5 (fun hHeld5 => ?_)
          case s_5 => exact ⟨kA, kB⟩
          clear hKQ KQ
          try simp only [Act.put, List.setIfInBounds_toArray, List.set_cons_zero, List.set_cons_succ]
          refine wpAnyH_ready (rs := [7]) (by kernel_rfl) (by simp) ?_
          refine AllReadyH.cons (o := { dst := some 57, op := .call { callee := .value (.func 17), args := #[.tmp 56], argTypes := #[30] }, type := 3, pos := "more.go:26", after := #[{ on := 6, ground := .data }, { on := 5, ground := .chain }, { on := 3, ground := .guard }], guard := some (3, true) }) rfl (fun KQ hKQ => ?_) AllReadyH.nil
          go_simp
          have CC := enti.last_any L2 A12 n2 c12 y18 R2.1 F2.out
          rw [hlb.out] at CC
          refine (CC).mono ?_
          rintro e y19 ⟨rfl, hY⟩
          replace kA := kA.below hY kA.lt
          replace kB := kB.below hY kB.lt
          replace kC := kC.below hY kC.lt
          replace R1 := R1.on hY hY.size
          replace R2 := R2.on hY hY.size
          replace R3 := R3.on hY hY.size
          replace HB := HB.trans (hY.mono HB.size)
          clear hY
          clear CC
          go_wp2_with fail
          refine hKQ.out _ _ ?s_7 (fun hHeld7 => ?_)
          case s_7 => exact ⟨kA, kB⟩
          clear hKQ KQ
          try simp only [Act.put, List.setIfInBounds_toArray, List.set_cons_zero, List.set_cons_succ]
          refine tk 8 { dst := some 58, op := .binOp .eql 3 (.tmp 55) (.tmp 57) 3, type := 4, pos := "more.go:26", after := #[{ on := 5, ground := .data }, { on := 7, ground := .data }, { on := 3, ground := .guard }], guard := some (3, true) } _ ?_
          try simp only [Act.put, List.setIfInBounds_toArray, List.set_cons_zero, List.set_cons_succ]
          refine tk 9 { dst := some 59, op := .pick (.tmp 53) (.tmp 58) (.const (.bool false)), type := 4, pos := "more.go:26", after := #[{ on := 3, ground := .data }, { on := 8, ground := .data }], guard := none } _ ?_
          try simp only [Act.put, List.setIfInBounds_toArray, List.set_cons_zero, List.set_cons_succ]
          refine tk 10 { dst := some 14, op := .assign (.tmp 59), type := 4, pos := "more.go:26", after := #[{ on := 9, ground := .data }, { on := 7, ground := .chain }, { on := 0, ground := .phase }, { on := 1, ground := .phase }, { on := 2, ground := .phase }, { on := 3, ground := .phase }, { on := 4, ground := .phase }, { on := 5, ground := .phase }, { on := 6, ground := .phase }, { on := 7, ground := .phase }, { on := 8, ground := .phase }, { on := 9, ground := .phase }], guard := none } _ ?_
          try simp only [Act.put, List.setIfInBounds_toArray, List.set_cons_zero, List.set_cons_succ]
          refine wpAnyH_done (by kernel_rfl) ?_ _
          go_wp2_with (first | refine kit.ld_L rfl _ rfl rfl kA ?_ | refine kit.ld_L rfl _ rfl rfl kB ?_ | refine kit.ld_L rfl _ rfl rfl kC ?_)
          have CC := newer_any L1 L2 A11 n c11 A12 n2 c12 y19 y19.heap.size y19.heap.size R1 (Nat.le_refl _) R2 (Nat.le_refl _) c11h.out c12h.out F1.out F2.out
          rw [hp1.out] at CC
          refine (CC).mono ?_
          rintro e y20 ⟨rfl, hY⟩
          replace kA := kA.below hY kA.lt
          replace kB := kB.below hY kB.lt
          replace kC := kC.below hY kC.lt
          replace R1 := R1.on hY hY.size
          replace R2 := R2.on hY hY.size
          replace R3 := R3.on hY hY.size
          replace HB := HB.trans (hY.mono HB.size)
          clear hY
          clear CC
          go_wp2_with (first | refine kit.ld_L rfl _ rfl rfl kA ?_ | refine kit.ld_L rfl _ rfl rfl kB ?_ | refine kit.ld_L rfl _ rfl rfl kC ?_)
          have CC := newer_any L1 L2 A11 n c11 A12 n2 c12 y20 y20.heap.size y20.heap.size R1 (Nat.le_refl _) R2 (Nat.le_refl _) c11h.out c12h.out F1.out F2.out
          rw [hp1.out] at CC
          refine (CC).mono ?_
          rintro e y21 ⟨rfl, hY⟩
          replace kA := kA.below hY kA.lt
          replace kB := kB.below hY kB.lt
          replace kC := kC.below hY kC.lt
          replace R1 := R1.on hY hY.size
          replace R2 := R2.on hY hY.size
          replace R3 := R3.on hY hY.size
          replace HB := HB.trans (hY.mono HB.size)
          clear hY
          clear CC
          go_wp2_with (first | refine kit.ld_L rfl _ rfl rfl kA ?_ | refine kit.ld_L rfl _ rfl rfl kB ?_ | refine kit.ld_L rfl _ rfl rfl kC ?_)
          have CC := newer_any L2 L1 A12 n2 c12 A11 n c11 y21 y21.heap.size y21.heap.size R2 (Nat.le_refl _) R1 (Nat.le_refl _) c12h.out c11h.out F2.out F1.out
          rw [hq1.out] at CC
          refine (CC).mono ?_
          rintro e y22 ⟨rfl, hY⟩
          replace kA := kA.below hY kA.lt
          replace kB := kB.below hY kB.lt
          replace kC := kC.below hY kC.lt
          replace R1 := R1.on hY hY.size
          replace R2 := R2.on hY hY.size
          replace R3 := R3.on hY hY.size
          replace HB := HB.trans (hY.mono HB.size)
          clear hY
          clear CC
          go_wp2_with (first | refine kit.ld_L rfl _ rfl rfl kA ?_ | refine kit.ld_L rfl _ rfl rfl kB ?_ | refine kit.ld_L rfl _ rfl rfl kC ?_)
          have CC := newer_any L1 L2 A11 n c11 A12 n2 c12 y22 y22.heap.size y22.heap.size R1 (Nat.le_refl _) R2 (Nat.le_refl _) c11h.out c12h.out F1.out F2.out
          rw [hp1.out] at CC
          refine (CC).mono ?_
          rintro e y23 ⟨rfl, hY⟩
          replace kA := kA.below hY kA.lt
          replace kB := kB.below hY kB.lt
          replace kC := kC.below hY kC.lt
          replace R1 := R1.on hY hY.size
          replace R2 := R2.on hY hY.size
          replace R3 := R3.on hY hY.size
          replace HB := HB.trans (hY.mono HB.size)
          clear hY
          clear CC
          go_wp2_with (first | refine kit.ld_L rfl _ rfl rfl kA ?_ | refine kit.ld_L rfl _ rfl rfl kB ?_ | refine kit.ld_L rfl _ rfl rfl kC ?_)
          have CC := newer_any L2 L3 A12 n2 c12 A13 n3 c13 y23 y23.heap.size y23.heap.size R2 (Nat.le_refl _) R3 (Nat.le_refl _) c12h.out c13h.out F2.out F3.out
          rw [hr1.out] at CC
          refine (CC).mono ?_
          rintro e y24 ⟨rfl, hY⟩
          replace kA := kA.below hY kA.lt
          replace kB := kB.below hY kB.lt
          replace kC := kC.below hY kC.lt
          replace R1 := R1.on hY hY.size
          replace R2 := R2.on hY hY.size
          replace R3 := R3.on hY hY.size
          replace HB := HB.trans (hY.mono HB.size)
          clear hY
          clear CC
          go_wp2_with (first | refine kit.ld_L rfl _ rfl rfl kA ?_ | refine kit.ld_L rfl _ rfl rfl kB ?_ | refine kit.ld_L rfl _ rfl rfl kC ?_)
          have CC := newer_any L1 L3 A11 n c11 A13 n3 c13 y24 y24.heap.size y24.heap.size R1 (Nat.le_refl _) R3 (Nat.le_refl _) c11h.out c13h.out F1.out F3.out
          rw [hs1.out] at CC
          refine (CC).mono ?_
          rintro e y25 ⟨rfl, hY⟩
          replace kA := kA.below hY kA.lt
          replace kB := kB.below hY kB.lt
          replace kC := kC.below hY kC.lt
          replace R1 := R1.on hY hY.size
          replace R2 := R2.on hY hY.size
          replace R3 := R3.on hY hY.size
          replace HB := HB.trans (hY.mono HB.size)
          clear hY
          clear CC
          go_wp2_with (first | refine kit.ld_L rfl _ rfl rfl kA ?_ | refine kit.ld_L rfl _ rfl rfl kB ?_ | refine kit.ld_L rfl _ rfl rfl kC ?_)
          go_ret
          exact ⟨by first | rfl | simp, HB⟩
        · skip
          exact absurd HX.out (by simp [hab])
end Go.Proofs.Yteadkgjikaikjaa.law12
