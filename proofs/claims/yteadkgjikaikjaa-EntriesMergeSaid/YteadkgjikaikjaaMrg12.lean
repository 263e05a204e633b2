/- EntriesMerge's walk: behind a merge that is ok the log has the other one's terms. Conditions: none. -/
import Derived.Test.YteadkgjikaikjaaLwM12
import Derived.Test.YteadkgjikaikjaaLwB12
import Derived.Test.YteadkgjikaikjaaEntM
import Derived.Test.YteadkgjikaikjaaRefGc12
import Derived.Test.YteadkgjikaikjaaMg12
import Derived.Test.YteadkgjikaikjaaVr12
import Derived.Test.YteadkgjikaikjaaKitLg
import Derived.Test.YteadkgjikaikjaaTk
import Derived.Deep.RegionHeld3
import Derived.Deep.Cut
import Derived.Lib.Hide
namespace Go.Proofs.Yteadkgjikaikjaa.law12
open Go Go.RowKit Go.Proofs.Yteadkgjikaikjaa.kit Go.Proofs.Yteadkgjikaikjaa.nums Go.Proofs.Yteadkgjikaikjaa.cf Go.Proofs.Yteadkgjikaikjaa.lg
set_option linter.unusedVariables false
set_option maxHeartbeats 4000000 in
set_option maxRecDepth 10000 in
theorem merge_walk (A : Option Addr) (n c : Nat) (l : List Int) (A2 : Option Addr) (n2 c2 : Nat) (l2 : List Int) (pv q : Int) (w : World) (hR : Rd w w.heap.size A n l) (hY : Byt l) (hR2 : Rd w w.heap.size A2 n2 l2) (hY2 : Byt l2) : Calls Try.prog 5 #[.slice A n c, .slice A2 n2 c2, .int .i64 pv, .int .i64 q] w fun e w' => e = .returned (.bool true) ∧ Below w.heap.size w w' := by
  have HR := Lib.hid hR
  have HR2 := Lib.hid hR2
  have HY := Lib.hid hY
  have HY2 := Lib.hid hY2
  clear hR hR2 hY hY2
  by_cases u1 : n ≤ 40
  rotate_left
  · have k1 : (40 : Int) < (n : Int) := by omega
    clear u1
    go_enter Try.func5, Try.ntmps5
    go_wp2_with fail
    refine (begun_any w).mono ?_
    rintro e y0 ⟨rfl, hY0⟩
    go_wp2_with fail
    go_ret
    exact ⟨rfl, hY0⟩
  by_cases u2 : n2 ≤ 40
  rotate_left
  · have k1 : ¬ ((40 : Int) < (n : Int)) := by omega
    have k2 : (40 : Int) < (n2 : Int) := by omega
    clear u1 u2
    go_enter Try.func5, Try.ntmps5
    go_wp2_with fail
    refine (begun_any w).mono ?_
    rintro e y0 ⟨rfl, hY0⟩
    go_wp2_with fail
    go_ret
    exact ⟨rfl, hY0⟩
  have k1 : ¬ ((40 : Int) < (n : Int)) := by omega
  have k2 : ¬ ((40 : Int) < (n2 : Int)) := by omega
  go_enter Try.func5, Try.ntmps5
  go_wp2_with fail
  refine (begun_any w).mono ?_
  rintro e y0 ⟨rfl, hY0⟩
  have HB := hY0
  go_wp2_with fail
  have RB := HR.out.on HB HB.size
  refine (made_any A n c l 0 0 y0 RB HY.out (by omega) (by omega) (by omega)).mono ?_
  rintro e y1 ⟨A11, c11, rfl, hO1, hYm⟩
  replace HB := HB.trans (hYm.mono HB.size)
  clear hYm
  clear RB
  have R1 := hO1.cap.2.2.2
  have c11h := Lib.hid hO1.cap.2.1
  clear hO1
  go_wp2_with fail
  have RB := HR2.out.on HB HB.size
  refine (made_any A2 n2 c2 l2 0 0 y1 RB HY2.out (by omega) (by omega) (by omega)).mono ?_
  rintro e y2 ⟨A12, c12, rfl, hO2, hYm⟩
  replace R1 := R1.on hYm hYm.size
  replace HB := HB.trans (hYm.mono HB.size)
  clear hYm
  clear RB
  have R2 := hO2.cap.2.2.2
  have c12h := Lib.hid hO2.cap.2.1
  clear hO2
  have F1 := Lib.hid (fit_may (made_may (b := 0) (t := 0) (l := l) (by omega) (by omega) (by rw [HR.out.1]; omega)) (by show (madeE _ l).length ≤ _; rw [madeE_length, HR.out.1]; omega))
  have F2 := Lib.hid (fit_may (made_may (b := 0) (t := 0) (l := l2) (by omega) (by omega) (by rw [HR2.out.1]; omega)) (by show (madeE _ l2).length ≤ _; rw [madeE_length, HR2.out.1]; omega))
  have b1 := Lib.hid (show (madeL 0 0 l).b = 0 from rfl)
  generalize madeL 0 0 l = L1 at *
  generalize madeL 0 0 l2 = L2 at *
  replace u1 := Lib.hid u1
  replace u2 := Lib.hid u2
  clear HR HR2 HY HY2 k1 k2
  have t3 := Below.refl y2.heap.size y2
  go_wp2_with (refine kit.al_L rfl rfl ?_)
  intro x4 zkA e4 s4
  have lekA := t3.size
  replace t3 := t3.trans (e4.mono t3.size)
  go_wp2_with (refine kit.al_L rfl rfl ?_)
  intro x5 zkB e5 s5
  replace zkA := zkA.below e5 zkA.lt
  have lekB := t3.size
  replace t3 := t3.trans (e5.mono t3.size)
  have nekAkB : y2.heap.size ≠ x4.heap.size := by have := s4.out; have := s5.out; omega
  go_wp2_with (refine kit.st_L rfl _ _ rfl L1 A11 n c11 rfl rfl _ zkA rfl ?_)
  intro y6 kA p6
  replace zkB := zkB.put p6 (Ne.symm nekAkB)
  replace t3 := p6.below _ _ t3 lekA
  go_wp2_with (refine kit.st_L rfl _ _ rfl L2 A12 n2 c12 rfl rfl _ zkB rfl ?_)
  intro y7 kB p7
  replace kA := kA.put p7 nekAkB
  replace t3 := p7.below _ _ t3 lekB
  replace R1 := R1.on t3 t3.size
  replace R2 := R2.on t3 t3.size
  replace HB := HB.trans (t3.mono HB.size)
  clear s4 s5 e4 e5 lekA lekB t3 nekAkB
  generalize y2.heap.size = gkA at *
  generalize x4.heap.size = gkB at *
  try clear zkA zkB
  obtain ⟨p, hp⟩ : ∃ p : Nat, max pv 0 = (p : Int) := ⟨(max pv 0).toNat, by omega⟩
  obtain ⟨u, hu⟩ : ∃ u : Nat, u = min p n2 := ⟨_, rfl⟩
  have hun : u ≤ n2 := by omega
  have hu2 : min (p : Int) (n2 : Int) = (u : Int) := by omega
  obtain ⟨p3, hp3⟩ : ∃ p : Nat, max q 0 = (p : Int) := ⟨(max q 0).toNat, by omega⟩
  obtain ⟨v, hv⟩ : ∃ u : Nat, u = min p3 40 := ⟨_, rfl⟩
  have hv40 : v ≤ 40 := by omega
  have hv2 : min (p3 : Int) 40 = (v : Int) := by omega
  replace hu := Lib.hid hu
  replace hv := Lib.hid hv
  have wu : IntKind.i64.wrap ((u : Int) + 1) = (u : Int) + 1 := kit.wrap_sm (by have := u2.out; omega) (by have := u2.out; omega)
  go_wp2_with (first | refine kit.ld_L rfl _ rfl rfl kA ?_ | refine kit.ld_L rfl _ rfl rfl kB ?_)
  have CC := enti.term_any L2 A12 n2 c12 (u : Int) y7 y7.heap.size R2 (Nat.le_refl _) c12h.out F2.out
  obtain ⟨tm, htm⟩ : ∃ x, (termF L2 (u : Int)).1 = x := ⟨_, rfl⟩
  obtain ⟨ti, hti⟩ : ∃ x, (termF L2 (u : Int)).2 = x := ⟨_, rfl⟩
  rw [htm, hti] at CC
  replace htm := Lib.hid htm
  replace hti := Lib.hid hti
  refine (CC).mono ?_
  rintro e y8 ⟨rfl, hY⟩
  replace kA := kA.below hY kA.lt
  replace kB := kB.below hY kB.lt
  replace R1 := R1.on hY hY.size
  replace R2 := R2.on hY hY.size
  replace HB := HB.trans (hY.mono HB.size)
  clear hY
  clear CC
  go_wp2_with (first | refine kit.ld_L rfl _ rfl rfl kA ?_ | refine kit.ld_L rfl _ rfl rfl kB ?_)
  have hi1 : In64 ((u : Int) + 1) := by have := u2.out; unfold In64; omega
  have hi2 : In64 ((v : Nat) : Int) := by unfold In64; omega
  have CC := enti.slice_any L2 A12 n2 c12 ((u : Int) + 1) (v : Int) y8 y8.heap.size R2 (Nat.le_refl _) c12h.out F2.out hi1 hi2
  have hsl := sliceF_len L2 ((u : Int) + 1) v
  obtain ⟨SL, hSL⟩ : ∃ x, sliceF L2 ((u : Int) + 1) (v : Int) = x := ⟨_, rfl⟩
  rw [hSL] at CC hsl
  replace hSL := Lib.hid hSL
  clear hi1 hi2
  refine CC.mono ?_
  rintro e y9 ⟨A5, n5, c5, rfl, hn5, hO5, hY⟩
  replace kA := kA.below hY kA.lt
  replace kB := kB.below hY kB.lt
  replace R1 := R1.on hY hY.size
  replace R2 := R2.on hY hY.size
  replace HB := HB.trans (hY.mono HB.size)
  clear hY
  clear CC
  have R5 := hO5.cap.2.2.2
  have c5h := Lib.hid hO5.cap.2.1
  clear hO5
  subst hn5
  obtain ⟨n5, hn5⟩ : ∃ x, SL.length = x := ⟨_, rfl⟩
  have hn5h := Lib.hid hn5.symm
  rw [hn5] at R5 hsl c5h
  simp only [hn5]
  clear hn5
  go_wp2_with (first | refine kit.ld_L rfl _ rfl rfl kA ?_ | refine kit.ld_L rfl _ rfl rfl kB ?_)
  have CC := enti.merge_any L1 A11 n c11 (u : Int) tm A5 n5 c5 SL y9 y9.heap.size R1 (Nat.le_refl _) c11h.out F1.out y9.heap.size R5 (Nat.le_refl _) c5h.out (by omega)
  rcases hj : joinB L1 (u : Int) tm SL.length with _ | _
  · skip
    have hno := Lib.hid (join_no b1.out hj)
    have hm : mergeF L1 (u : Int) tm SL = (L1, 0, false) := by unfold mergeF; rw [hj]; rfl
    rw [hm] at CC
    dsimp only at CC
    clear hm hj
    refine CC.mono ?_
    rintro e y10 ⟨A6, n6, c6, rfl, hn6, hO6, hY⟩
    replace kA := kA.below hY kA.lt
    replace kB := kB.below hY kB.lt
    replace R1 := R1.on hY hY.size
    replace R2 := R2.on hY hY.size
    replace R5 := R5.on hY hY.size
    replace HB := HB.trans (hY.mono HB.size)
    clear hY
    clear CC
    have R6 := hO6.cap.2.2.2
    have c6h := Lib.hid hO6.cap.2.1
    clear hO6
    replace hn6 := Lib.hid hn6
    have lkA := kA.lt
    have lkB := kB.lt
    have t11 := Below.refl y10.heap.size y10
    go_wp2_with (refine kit.al_L rfl rfl ?_)
    intro x12 zkC e12 s12
    replace kA := kA.below e12 kA.lt
    replace kB := kB.below e12 kB.lt
    have lekC := t11.size
    replace t11 := t11.trans (e12.mono t11.size)
    go_wp2_with (refine kit.st_L rfl _ _ rfl L1 A6 n6 c6 rfl rfl _ zkC rfl ?_)
    intro y13 kC p13
    replace kA := kA.put p13 (Nat.ne_of_lt (Nat.lt_of_lt_of_le lkA lekC))
    replace kB := kB.put p13 (Nat.ne_of_lt (Nat.lt_of_lt_of_le lkB lekC))
    replace t11 := p13.below _ _ t11 lekC
    replace R1 := R1.on t11 t11.size
    replace R2 := R2.on t11 t11.size
    replace R5 := R5.on t11 t11.size
    replace R6 := R6.on t11 t11.size
    replace HB := HB.trans (t11.mono HB.size)
    clear lkA lkB s12 e12 lekC t11
    generalize y10.heap.size = gkC at *
    try clear zkC
    go_wp2_with (first | refine kit.ld_L rfl _ rfl rfl kA ?_ | refine kit.ld_L rfl _ rfl rfl kB ?_ | refine kit.ld_L rfl _ rfl rfl kC ?_)
    have CC := enti.term_any L1 A11 n c11 (u : Int) y13 y13.heap.size R1 (Nat.le_refl _) c11h.out F1.out
    obtain ⟨ta, hta⟩ : ∃ x, (termF L1 (u : Int)).1 = x := ⟨_, rfl⟩
    obtain ⟨tb, htb⟩ : ∃ x, (termF L1 (u : Int)).2 = x := ⟨_, rfl⟩
    rw [hta, htb] at CC
    have hno2 := hno.out
    rw [hta, htb] at hno2
    clear hta htb hno
    refine (CC).mono ?_
    rintro e y14 ⟨rfl, hY⟩
    replace kA := kA.below hY kA.lt
    replace kB := kB.below hY kB.lt
    replace kC := kC.below hY kC.lt
    replace R1 := R1.on hY hY.size
    replace R2 := R2.on hY hY.size
    replace R5 := R5.on hY hY.size
    replace R6 := R6.on hY hY.size
    replace HB := HB.trans (hY.mono HB.size)
    clear hY
    clear CC
    rcases tb with _ | _
    · skip
      clear hno2
      go_wp2_with (first | refine kit.ld_L rfl _ rfl rfl kA ?_ | refine kit.ld_L rfl _ rfl rfl kB ?_ | refine kit.ld_L rfl _ rfl rfl kC ?_)
      go_ret
      exact ⟨rfl, HB⟩
    · skip
      have hne : (ta != tm) = true := by simpa using hno2
      clear hno2
      go_wp2_with (first | refine kit.ld_L rfl _ rfl rfl kA ?_ | refine kit.ld_L rfl _ rfl rfl kB ?_ | refine kit.ld_L rfl _ rfl rfl kC ?_)
      go_ret
      exact ⟨rfl, HB⟩
  · skip
    obtain ⟨M, hm1, hm2, hM0, hM1, hM2, hM3, hM4, hM5, hM6, hM7⟩ := merge_twice b1.out hj
    rw [hm1] at CC
    dsimp only at CC
    have hl1 := Lib.hid R1.1
    rw [← hn5h.out] at hM1 hM2 CC
    have FM : Hid (Fit M) := ⟨by omega, by omega, by have := u1.out; have := u2.out; have := hl1.out; omega⟩
    have HI : Hid (∀ (i : Nat) (x : EnL), SL[i]? = some x → ∃ y, atF M ((u : Int) + 1 + (i : Int)) = (y, true) ∧ y.t = x.t) := fun i x hx => by
      obtain ⟨y, h1, h2⟩ := hM3 i x hx
      exact ⟨y, atF_in (k := u + i) (by omega) h1, h2⟩
    have HE : Hid ((∀ (i : Nat) (x : EnL), SL[i]? = some x → ∃ y, L1.es[u + i]? = some y ∧ y.t = x.t) → M = L1) := hM4
    have hmm := Lib.hid hm2
    have hMl := Lib.hid hM1
    have hMb := Lib.hid hM0
    clear hj hm1 hm2 hM0 hM1 hM2 hM3 hM4 hM5 hM6 hM7
    refine CC.mono ?_
    rintro e y10 ⟨A6, n6, c6, rfl, hn6, hO6, hY⟩
    replace kA := kA.below hY kA.lt
    replace kB := kB.below hY kB.lt
    replace R1 := R1.on hY hY.size
    replace R2 := R2.on hY hY.size
    replace R5 := R5.on hY hY.size
    replace HB := HB.trans (hY.mono HB.size)
    clear hY
    clear CC
    have R6 := hO6.cap.2.2.2
    have c6h := Lib.hid hO6.cap.2.1
    clear hO6
    replace hn6 := Lib.hid hn6
    have lkA := kA.lt
    have lkB := kB.lt
    have t11 := Below.refl y10.heap.size y10
    go_wp2_with (refine kit.al_L rfl rfl ?_)
    intro x12 zkC e12 s12
    replace kA := kA.below e12 kA.lt
    replace kB := kB.below e12 kB.lt
    have lekC := t11.size
    replace t11 := t11.trans (e12.mono t11.size)
    go_wp2_with (refine kit.st_L rfl _ _ rfl M A6 n6 c6 rfl rfl _ zkC rfl ?_)
    intro y13 kC p13
    replace kA := kA.put p13 (Nat.ne_of_lt (Nat.lt_of_lt_of_le lkA lekC))
    replace kB := kB.put p13 (Nat.ne_of_lt (Nat.lt_of_lt_of_le lkB lekC))
    replace t11 := p13.below _ _ t11 lekC
    replace R1 := R1.on t11 t11.size
    replace R2 := R2.on t11 t11.size
    replace R5 := R5.on t11 t11.size
    replace R6 := R6.on t11 t11.size
    replace HB := HB.trans (t11.mono HB.size)
    clear lkA lkB s12 e12 lekC t11
    generalize y10.heap.size = gkC at *
    try clear zkC
    go_wp2_with (first | refine kit.ld_L rfl _ rfl rfl kA ?_ | refine kit.ld_L rfl _ rfl rfl kB ?_ | refine kit.ld_L rfl _ rfl rfl kC ?_)
    have CC := enti.merge_any M A6 n6 c6 (u : Int) tm A5 n5 c5 SL y13 y13.heap.size R6 (Nat.le_refl _) c6h.out FM.out y13.heap.size R5 (Nat.le_refl _) c5h.out (by omega)
    rw [hmm.out] at CC
    dsimp only at CC
    rw [← hn5h.out] at CC
    refine CC.mono ?_
    rintro e y14 ⟨A7, n7, c7, rfl, hn7, hO7, hY⟩
    replace kA := kA.below hY kA.lt
    replace kB := kB.below hY kB.lt
    replace kC := kC.below hY kC.lt
    replace R1 := R1.on hY hY.size
    replace R2 := R2.on hY hY.size
    replace R5 := R5.on hY hY.size
    replace R6 := R6.on hY hY.size
    replace HB := HB.trans (hY.mono HB.size)
    clear hY
    clear CC
    have R7 := hO7.cap.2.2.2
    have c7h := Lib.hid hO7.cap.2.1
    clear hO7
    replace hn7 := Lib.hid hn7
    have lkA := kA.lt
    have lkB := kB.lt
    have lkC := kC.lt
    have t15 := Below.refl y14.heap.size y14
    go_wp2_with (refine kit.al_L rfl rfl ?_)
    intro x16 zkD e16 s16
    replace kA := kA.below e16 kA.lt
    replace kB := kB.below e16 kB.lt
    replace kC := kC.below e16 kC.lt
    have lekD := t15.size
    replace t15 := t15.trans (e16.mono t15.size)
    go_wp2_with (refine kit.st_L rfl _ _ rfl M A7 n7 c7 rfl rfl _ zkD rfl ?_)
    intro y17 kD p17
    replace kA := kA.put p17 (Nat.ne_of_lt (Nat.lt_of_lt_of_le lkA lekD))
    replace kB := kB.put p17 (Nat.ne_of_lt (Nat.lt_of_lt_of_le lkB lekD))
    replace kC := kC.put p17 (Nat.ne_of_lt (Nat.lt_of_lt_of_le lkC lekD))
    replace t15 := p17.below _ _ t15 lekD
    replace R1 := R1.on t15 t15.size
    replace R2 := R2.on t15 t15.size
    replace R5 := R5.on t15 t15.size
    replace R6 := R6.on t15 t15.size
    replace R7 := R7.on t15 t15.size
    replace HB := HB.trans (t15.mono HB.size)
    clear lkA lkB lkC s16 e16 lekD t15
    generalize y14.heap.size = gkD at *
    try clear zkD
    have wi : IntKind.i64.wrap ((u : Int) + (n5 : Int)) = (u : Int) + (n5 : Int) := kit.wrap_sm (by have := u2.out; omega) (by have := u2.out; omega)
    go_wp2_with (first | refine kit.ld_L rfl _ rfl rfl kA ?_ | refine kit.ld_L rfl _ rfl rfl kB ?_ | refine kit.ld_L rfl _ rfl rfl kC ?_ | refine kit.ld_L rfl _ rfl rfl kD ?_)
    have hn6b := FM.out.2.2
    have CC := ref12.rsame_any M M A7 n7 c7 A6 n6 c6 y17 y17.heap.size y17.heap.size R7 (Nat.le_refl _) R6 (Nat.le_refl _) (by have := hn7.out; omega)
    rw [eqL_self] at CC
    clear hn6b
    refine (CC).mono ?_
    rintro e y18 ⟨rfl, hY⟩
    replace kA := kA.below hY kA.lt
    replace kB := kB.below hY kB.lt
    replace kC := kC.below hY kC.lt
    replace kD := kD.below hY kD.lt
    replace R1 := R1.on hY hY.size
    replace R2 := R2.on hY hY.size
    replace R5 := R5.on hY hY.size
    replace R6 := R6.on hY hY.size
    replace R7 := R7.on hY hY.size
    replace HB := HB.trans (hY.mono HB.size)
    clear hY
    clear CC
    go_wp2_with (first | refine kit.ld_L rfl _ rfl rfl kA ?_ | refine kit.ld_L rfl _ rfl rfl kB ?_ | refine kit.ld_L rfl _ rfl rfl kC ?_ | refine kit.ld_L rfl _ rfl rfl kD ?_)
    have CC := enti.last_any M A6 n6 c6 y18 hn6.out.symm FM.out
    have hla : lastF M = (n6 : Int) := by unfold lastF; rw [hMb.out, Int.zero_add, hn6.out]
    rw [hla] at CC
    clear hla
    have hnl : ¬ ((n6 : Int) < (u : Int) + (n5 : Int)) := by have := hMl.out; have := hn6.out; omega
    refine (CC).mono ?_
    rintro e y19 ⟨rfl, hY⟩
    replace kA := kA.below hY kA.lt
    replace kB := kB.below hY kB.lt
    replace kC := kC.below hY kC.lt
    replace kD := kD.below hY kD.lt
    replace R1 := R1.on hY hY.size
    replace R2 := R2.on hY hY.size
    replace R5 := R5.on hY hY.size
    replace R6 := R6.on hY hY.size
    replace R7 := R7.on hY hY.size
    replace HB := HB.trans (hY.mono HB.size)
    clear hY
    clear CC
    go_wp2_with (first | refine kit.ld_L rfl _ rfl rfl kA ?_ | refine kit.ld_L rfl _ rfl rfl kB ?_ | refine kit.ld_L rfl _ rfl rfl kC ?_ | refine kit.ld_L rfl _ rfl rfl kD ?_)
    clear hnl
    have BkA := Lib.hid kA
    clear kA
    have BkB := Lib.hid kB
    clear kB
    have BkC := Lib.hid kC
    clear kC
    have BkD := Lib.hid kD
    clear kD
    have BR1 := Lib.hid R1
    clear R1
    have BR2 := Lib.hid R2
    clear R2
    have BR5 := Lib.hid R5
    clear R5
    have BR6 := Lib.hid R6
    clear R6
    have BR7 := Lib.hid R7
    clear R7
    have BH := Lib.hid HB
    clear HB
    go_loopw [22] (fun iv wr => ∃ i : Nat, i ≤ n5 ∧ iv = .int .i64 ((u : Int) + 1 + (i : Int)) ∧ Hid (Below y19.heap.size y19 wr)) (fun iv _ => u + n5 + 1 - (intOf iv).toNat)
    case atStart => exact ⟨0, Nat.zero_le _, congrArg (Value.int .i64) (by omega), Lib.hid (Below.refl _ _)⟩
    case round =>
      obtain ⟨i, hi, rfl, HY⟩ := hrel
      by_cases hin : i < n5
      · skip
        have kA := BkA.out.below HY.out BkA.out.lt
        have kB := BkB.out.below HY.out BkB.out.lt
        have kC := BkC.out.below HY.out BkC.out.lt
        have kD := BkD.out.below HY.out BkD.out.lt
        have R1 := BR1.out.on HY.out HY.out.size
        have R2 := BR2.out.on HY.out HY.out.size
        have R5 := BR5.out.on HY.out HY.out.size
        have R6 := BR6.out.on HY.out HY.out.size
        have R7 := BR7.out.on HY.out HY.out.size
        have HB := HY.out
        have ci : (u : Int) + 1 + (i : Int) ≤ (u : Int) + (n5 : Int) := by omega
        have hxx := List.getElem?_eq_getElem (l := SL) (i := i) (by rw [← hn5h.out]; exact hin)
        obtain ⟨y, hy, hyt⟩ := HI.out i _ hxx
        go_wp2_with (first | refine kit.ld_L rfl _ rfl rfl kA ?_ | refine kit.ld_L rfl _ rfl rfl kB ?_ | refine kit.ld_L rfl _ rfl rfl kC ?_ | refine kit.ld_L rfl _ rfl rfl kD ?_)
        have CC := enti.at_any M A6 n6 c6 ((u : Int) + 1 + (i : Int)) wr wr.heap.size R6 (Nat.le_refl _) c6h.out FM.out
        rw [hy] at CC
        clear hy
        refine (CC).mono ?_
        rintro e y20 ⟨rfl, hY⟩
        replace kA := kA.below hY kA.lt
        replace kB := kB.below hY kB.lt
        replace kC := kC.below hY kC.lt
        replace kD := kD.below hY kD.lt
        replace R1 := R1.on hY hY.size
        replace R2 := R2.on hY hY.size
        replace R5 := R5.on hY hY.size
        replace R6 := R6.on hY hY.size
        replace R7 := R7.on hY hY.size
        replace HB := HB.trans (hY.mono HB.size)
        clear hY
        clear CC
        have lkA := kA.lt
        have lkB := kB.lt
        have lkC := kC.lt
        have lkD := kD.lt
        have t21 := Below.refl y20.heap.size y20
        go_wp2_with (refine kit.al_E rfl rfl ?_)
        intro x22 zkE e22 s22
        replace kA := kA.below e22 kA.lt
        replace kB := kB.below e22 kB.lt
        replace kC := kC.below e22 kC.lt
        replace kD := kD.below e22 kD.lt
        have lekE := t21.size
        replace t21 := t21.trans (e22.mono t21.size)
        go_wp2_with (refine kit.st_E rfl _ _ rfl y rfl rfl _ zkE rfl ?_)
        intro y23 kE p23
        replace kA := kA.put p23 (Nat.ne_of_lt (Nat.lt_of_lt_of_le lkA lekE))
        replace kB := kB.put p23 (Nat.ne_of_lt (Nat.lt_of_lt_of_le lkB lekE))
        replace kC := kC.put p23 (Nat.ne_of_lt (Nat.lt_of_lt_of_le lkC lekE))
        replace kD := kD.put p23 (Nat.ne_of_lt (Nat.lt_of_lt_of_le lkD lekE))
        replace t21 := p23.below _ _ t21 lekE
        replace R1 := R1.on t21 t21.size
        replace R2 := R2.on t21 t21.size
        replace R5 := R5.on t21 t21.size
        replace R6 := R6.on t21 t21.size
        replace R7 := R7.on t21 t21.size
        replace HB := HB.trans (t21.mono HB.size)
        clear lkA lkB lkC lkD s22 e22 lekE t21
        generalize y20.heap.size = gkE at *
        try clear zkE
        obtain ⟨b5, o5, x, rfl, hlt5, hx, hA5⟩ := R5.at_ hin
        have c50 : _ = some (Value.int .i64 x.t) := hA5 0 _ rfl
        rw [Nat.add_zero] at c50
        clear hA5
        have w1 : IntKind.i64.wrap ((u : Int) + 1 + (i : Int) - (u : Int)) = (i : Int) + 1 := by rw [kit.wrap_sm (by have := u2.out; omega) (by have := u2.out; omega)]; omega
        have w2 : IntKind.i64.wrap ((i : Int) + 1 - 1) = (i : Int) := by rw [kit.wrap_sm (by have := u2.out; omega) (by have := u2.out; omega)]; omega
        have w4 : IntKind.i64.wrap (i : Int) = (i : Int) := kit.wrap_sm (by omega) (by have := u2.out; omega)
        have w3 : IntKind.i64.wrap ((u : Int) + 1 + (i : Int) + 1) = (u : Int) + 1 + ((i + 1 : Nat) : Int) := by rw [kit.wrap_sm (by have := u2.out; omega) (by have := u2.out; omega)]; omega
        have hii : (i : Int) < (n5 : Int) := by omega
        have hi0 : (0 : Int) ≤ (i : Int) := by omega
        rw [hxx] at hx
        obtain rfl := Option.some.inj hx
        clear hxx hx
        generalize SL[i] = x at *
        have cE : _ = some (Value.int .i64 y.t) := kE.cell 0
        have hxb : (y.t != x.t) = false := by simp [hyt]
        replace hyt := Lib.hid hyt
        have HBh := Lib.hid HB.drew
        clear HB kA kB kC kD kE R1 R2 R5 R6 R7
        go_upto_region 20 with (fail)
        refine wp_region_held_drew (S := fun wq => wq.cell? ⟨gkE, 0, none⟩ = some (.int .i64 y.t) ∧ wq.cell? ⟨b5, o5 + i * 14, none⟩ = some (.int .i64 x.t)) (by kernel_rfl) ?s_mrg20 (fun hHeld => ?_)
        case s_mrg20 => exact ⟨cE, c50⟩
        refine tk 0 { dst := some 134, op := .fieldAddr 37 (.tmp 23) 0, type := 0, pos := "law.go:122", after := #[], guard := none } _ ?_
        try simp only [Act.put, List.setIfInBounds_toArray, List.set_cons_zero, List.set_cons_succ]
        refine tk 1 { dst := some 135, op := .load 3 (.tmp 134), type := 3, pos := "law.go:122", after := #[{ on := 0, ground := .data }], guard := none } _ ?_
        try simp only [Act.put, List.setIfInBounds_toArray, List.set_cons_zero, List.set_cons_succ]
        refine tk 2 { dst := some 136, op := .move (.tmp 13), type := 28, pos := "law.go:122", after := #[], guard := none } _ ?_
        try simp only [Act.put, List.setIfInBounds_toArray, List.set_cons_zero, List.set_cons_succ]
        refine tk 3 { dst := some 137, op := .move (.tmp 22), type := 3, pos := "law.go:122", after := #[], guard := none } _ ?_
        try simp only [Act.put, List.setIfInBounds_toArray, List.set_cons_zero, List.set_cons_succ]
        refine tk 4 { dst := some 138, op := .move (.tmp 2), type := 3, pos := "law.go:122", after := #[], guard := none } _ ?_
        try simp only [Act.put, List.setIfInBounds_toArray, List.set_cons_zero, List.set_cons_succ]
        refine tk 5 { dst := some 139, op := .binOp .sub 3 (.tmp 137) (.tmp 138) 3, type := 3, pos := "law.go:122", after := #[{ on := 3, ground := .data }, { on := 4, ground := .data }], guard := none } _ ?_
        try simp only [Act.put, List.setIfInBounds_toArray, List.set_cons_zero, List.set_cons_succ]
        refine tk 6 { dst := some 140, op := .binOp .sub 3 (.tmp 139) (.const (.int .i64 1)) 3, type := 3, pos := "law.go:122", after := #[{ on := 5, ground := .data }], guard := none } _ ?_
        try simp only [Act.put, List.setIfInBounds_toArray, List.set_cons_zero, List.set_cons_succ]
        refine tk 7 { dst := some 141, op := .indexAddr 28 (.tmp 136) (.tmp 140), type := 0, pos := "law.go:122", after := #[{ on := 2, ground := .data }, { on := 6, ground := .data }], guard := none } _ ?_
        try simp only [Act.put, List.setIfInBounds_toArray, List.set_cons_zero, List.set_cons_succ]
        refine tk 8 { dst := some 142, op := .fieldAddr 37 (.tmp 141) 0, type := 0, pos := "law.go:122", after := #[{ on := 7, ground := .data }], guard := none } _ ?_
        try simp only [Act.put, List.setIfInBounds_toArray, List.set_cons_zero, List.set_cons_succ]
        refine tk 9 { dst := some 143, op := .load 3 (.tmp 142), type := 3, pos := "law.go:122", after := #[{ on := 8, ground := .data }], guard := none } _ ?_
        try simp only [Act.put, List.setIfInBounds_toArray, List.set_cons_zero, List.set_cons_succ]
        refine tk 10 { dst := some 144, op := .binOp .neq 3 (.tmp 135) (.tmp 143) 3, type := 4, pos := "law.go:122", after := #[{ on := 1, ground := .data }, { on := 9, ground := .data }], guard := none } _ ?_
        try simp only [Act.put, List.setIfInBounds_toArray, List.set_cons_zero, List.set_cons_succ]
        refine wpAnyH_done (by kernel_rfl) ?_ _
        go_wp2_with fail
        go_roundw
        case rel => exact ⟨i + 1, by omega, rfl, HBh⟩
        case measure => simp only [intOf]; omega
      · skip
        have kA := BkA.out.below HY.out BkA.out.lt
        have kB := BkB.out.below HY.out BkB.out.lt
        have kC := BkC.out.below HY.out BkC.out.lt
        have kD := BkD.out.below HY.out BkD.out.lt
        have R1 := BR1.out.on HY.out HY.out.size
        have R2 := BR2.out.on HY.out HY.out.size
        have R5 := BR5.out.on HY.out HY.out.size
        have R6 := BR6.out.on HY.out HY.out.size
        have R7 := BR7.out.on HY.out HY.out.size
        have HB := HY.out
        obtain rfl : i = n5 := by omega
        have ci : ¬ ((u : Int) + 1 + (i : Int) ≤ (u : Int) + (i : Int)) := by omega
        clear HI
        go_wp2_with (first | refine kit.ld_L rfl _ rfl rfl kA ?_ | refine kit.ld_L rfl _ rfl rfl kB ?_ | refine kit.ld_L rfl _ rfl rfl kC ?_ | refine kit.ld_L rfl _ rfl rfl kD ?_)
        obtain ⟨sm, hsm⟩ : ∃ sm : Nat → Bool, sm = smB L1 u SL := ⟨_, rfl⟩
        have hs0 : Hid (sm 0 = true) := by show _ = _; rw [hsm]; rfl
        have hss : Hid (∀ k, sm (k + 1) = (sm k && ((termF L1 ((u : Int) + 1 + (k : Int))).2 && (termF L1 ((u : Int) + 1 + (k : Int))).1 == (SL.getD k zE).t))) := by rw [hsm]; exact fun k => rfl
        have hsa : Hid (sm i = true → M = L1) := by rw [hsm]; exact fun h => HE.out (fun k x hx => smB_all b1.out h k x (by rw [hn5h.out]; exact (List.getElem?_eq_some_iff.1 hx).1) hx)
        clear hsm HE
        go_loopw [25, 26] (fun sv iv wr => ∃ k : Nat, k ≤ i ∧ sv = .bool (sm k) ∧ iv = .int .i64 ((u : Int) + 1 + (k : Int)) ∧ Hid (Below y19.heap.size y19 wr)) (fun _ iv _ => u + i + 1 - (intOf iv).toNat)
        case atStart => exact ⟨0, Nat.zero_le _, congrArg Value.bool hs0.out.symm, congrArg (Value.int .i64) (by omega), Lib.hid HB⟩
        case round =>
          obtain ⟨k, hk, rfl, rfl, HY2⟩ := hrel
          clear HB kA kB kC kD R1 R2 R5 R6 R7
          by_cases hkn : k < i
          · skip
            have kA := BkA.out.below HY2.out BkA.out.lt
            have kB := BkB.out.below HY2.out BkB.out.lt
            have kC := BkC.out.below HY2.out BkC.out.lt
            have kD := BkD.out.below HY2.out BkD.out.lt
            have R1 := BR1.out.on HY2.out HY2.out.size
            have R2 := BR2.out.on HY2.out HY2.out.size
            have R5 := BR5.out.on HY2.out HY2.out.size
            have R6 := BR6.out.on HY2.out HY2.out.size
            have R7 := BR7.out.on HY2.out HY2.out.size
            have HB := HY2.out
            obtain ⟨b5, o5, x, rfl, hlt5, hx, hA5⟩ := R5.at_ hkn
            have c50 : _ = some (Value.int .i64 x.t) := hA5 0 _ rfl
            rw [Nat.add_zero] at c50
            clear hA5
            have hgx : (SL.getD k zE) = x := by rw [List.getD_eq_getElem?_getD, hx]; rfl
            have hs1 := hss.out k
            rw [hgx] at hs1
            clear hx hgx hss hs0 hsa
            have w1 : IntKind.i64.wrap ((u : Int) + 1 + (k : Int) - (u : Int)) = (k : Int) + 1 := by rw [kit.wrap_sm (by have := u2.out; omega) (by have := u2.out; omega)]; omega
            have w2 : IntKind.i64.wrap ((k : Int) + 1 - 1) = (k : Int) := by rw [kit.wrap_sm (by have := u2.out; omega) (by have := u2.out; omega)]; omega
            have w4 : IntKind.i64.wrap (k : Int) = (k : Int) := kit.wrap_sm (by omega) (by have := u2.out; omega)
            have w3 : IntKind.i64.wrap ((u : Int) + 1 + (k : Int) + 1) = (u : Int) + 1 + ((k + 1 : Nat) : Int) := by rw [kit.wrap_sm (by have := u2.out; omega) (by have := u2.out; omega)]; omega
            have hii : (k : Int) < (i : Int) := by omega
            have hi0 : (0 : Int) ≤ (k : Int) := by omega
            have ci2 : (u : Int) + 1 + (k : Int) ≤ (u : Int) + (i : Int) := by omega
            replace hs1 := Lib.hid hs1
            go_wp2_with (first | refine kit.ld_L rfl _ rfl rfl kA ?_ | refine kit.ld_L rfl _ rfl rfl kB ?_ | refine kit.ld_L rfl _ rfl rfl kC ?_ | refine kit.ld_L rfl _ rfl rfl kD ?_)
            have CC := enti.term_any L1 A11 n c11 ((u : Int) + 1 + (k : Int)) wr wr.heap.size R1 (Nat.le_refl _) c11h.out F1.out
            obtain ⟨ta, hta⟩ : ∃ z, (termF L1 ((u : Int) + 1 + (k : Int))).1 = z := ⟨_, rfl⟩
            obtain ⟨tb, htb⟩ : ∃ z, (termF L1 ((u : Int) + 1 + (k : Int))).2 = z := ⟨_, rfl⟩
            have hs2 := hs1.out
            rw [hta, htb] at CC hs2
            clear hta htb hs1
            generalize hsk : sm k = sk at *
            refine (CC).mono ?_
            rintro e y20 ⟨rfl, hY⟩
            have c52 := (hY.cell (p := ⟨b5, o5 + k * 14, none⟩) hlt5).trans c50
            replace kA := kA.below hY kA.lt
            replace kB := kB.below hY kB.lt
            replace kC := kC.below hY kC.lt
            replace kD := kD.below hY kD.lt
            replace R1 := R1.on hY hY.size
            replace R2 := R2.on hY hY.size
            replace R5 := R5.on hY hY.size
            replace R6 := R6.on hY hY.size
            replace R7 := R7.on hY hY.size
            replace HB := HB.trans (hY.mono HB.size)
            clear hY
            clear CC
            clear c50
            have HBh := Lib.hid HB
            clear HB kA kB kC kD R1 R2 R5 R6 R7
            rcases sk with _ | _
            · rw [Bool.false_and] at hs2
              replace hs2 := Lib.hid hs2
              go_wp2_with fail
              go_roundw
              case rel => exact ⟨k + 1, by omega, congrArg Value.bool hs2.out.symm, rfl, HBh⟩
              case measure => simp only [intOf]; omega
            · rcases tb with _ | _
              · rw [Bool.true_and, Bool.false_and] at hs2
                replace hs2 := Lib.hid hs2
                go_wp2_with fail
                go_roundw
                case rel => exact ⟨k + 1, by omega, congrArg Value.bool hs2.out.symm, rfl, HBh⟩
                case measure => simp only [intOf]; omega
              · rw [Bool.true_and, Bool.true_and] at hs2
                replace hs2 := Lib.hid hs2
                go_wp2_with fail
                go_roundw
                case rel => exact ⟨k + 1, by omega, congrArg Value.bool hs2.out.symm, rfl, HBh⟩
                case measure => simp only [intOf]; omega
          · skip
            have kA := BkA.out.below HY2.out BkA.out.lt
            have kB := BkB.out.below HY2.out BkB.out.lt
            have kC := BkC.out.below HY2.out BkC.out.lt
            have kD := BkD.out.below HY2.out BkD.out.lt
            have R1 := BR1.out.on HY2.out HY2.out.size
            have R2 := BR2.out.on HY2.out HY2.out.size
            have R5 := BR5.out.on HY2.out HY2.out.size
            have R6 := BR6.out.on HY2.out HY2.out.size
            have R7 := BR7.out.on HY2.out HY2.out.size
            have HB := HY2.out
            obtain rfl : k = i := by omega
            have ci2 : ¬ ((u : Int) + 1 + (k : Int) ≤ (u : Int) + (k : Int)) := by omega
            clear hss hs0
            generalize sm k = sk at *
            rcases sk with _ | _
            · clear hsa
              go_wp2_with (first | refine kit.ld_L rfl _ rfl rfl kA ?_ | refine kit.ld_L rfl _ rfl rfl kB ?_ | refine kit.ld_L rfl _ rfl rfl kC ?_ | refine kit.ld_L rfl _ rfl rfl kD ?_)
              go_ret
              exact ⟨by first | rfl | simp, BH.out.trans (HB.mono BH.out.size)⟩
            · have hML := hsa.out rfl
              subst hML
              clear hsa
              go_wp2_with (first | refine kit.ld_L rfl _ rfl rfl kA ?_ | refine kit.ld_L rfl _ rfl rfl kB ?_ | refine kit.ld_L rfl _ rfl rfl kC ?_ | refine kit.ld_L rfl _ rfl rfl kD ?_)
              have hn6b := FM.out.2.2
              have CC := ref12.rsame_any M M A6 n6 c6 A11 n c11 wr wr.heap.size wr.heap.size R6 (Nat.le_refl _) R1 (Nat.le_refl _) (by have := hn6.out; omega)
              rw [eqL_self] at CC
              clear hn6b
              refine (CC).mono ?_
              rintro e y20 ⟨rfl, hY⟩
              replace kA := kA.below hY kA.lt
              replace kB := kB.below hY kB.lt
              replace kC := kC.below hY kC.lt
              replace kD := kD.below hY kD.lt
              replace R1 := R1.on hY hY.size
              replace R2 := R2.on hY hY.size
              replace R5 := R5.on hY hY.size
              replace R6 := R6.on hY hY.size
              replace R7 := R7.on hY hY.size
              replace HB := HB.trans (hY.mono HB.size)
              clear hY
              clear CC
              go_wp2_with (first | refine kit.ld_L rfl _ rfl rfl kA ?_ | refine kit.ld_L rfl _ rfl rfl kB ?_ | refine kit.ld_L rfl _ rfl rfl kC ?_ | refine kit.ld_L rfl _ rfl rfl kD ?_)
              go_ret
              exact ⟨by first | rfl | simp, BH.out.trans (HB.mono BH.out.size)⟩
end Go.Proofs.Yteadkgjikaikjaa.law12
