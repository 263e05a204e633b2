/- EntriesPieces' walk: a log that is sent piece by piece comes to have the sender's terms. Conditions: none. -/
import Derived.Test.YteadkgjikaikjaaLwM12
import Derived.Test.YteadkgjikaikjaaLwB12
import Derived.Test.YteadkgjikaikjaaCm12
import Derived.Test.YteadkgjikaikjaaVr12
import Derived.Test.YteadkgjikaikjaaEntM
import Derived.Test.YteadkgjikaikjaaLwK12
import Derived.Test.YteadkgjikaikjaaKitLg
import Derived.Test.YteadkgjikaikjaaTk
import Derived.Deep.RegionHeld3
import Derived.Deep.Cut
import Derived.Lib.Hide
namespace Go.Proofs.Yteadkgjikaikjaa.law12
open Go Go.RowKit Go.Proofs.Yteadkgjikaikjaa.kit Go.Proofs.Yteadkgjikaikjaa.nums Go.Proofs.Yteadkgjikaikjaa.cf Go.Proofs.Yteadkgjikaikjaa.lg
set_option linter.unusedVariables false
set_option maxHeartbeats 4000000 in
set_option maxRecDepth 10000 in
theorem pieces_walk (A : Option Addr) (n c : Nat) (l : List Int) (A2 : Option Addr) (n2 c2 : Nat) (l2 : List Int) (A3 : Option Addr) (n3 c3 : Nat) (l3 : List Int) (w : World) (hR : Rd w w.heap.size A n l) (hY : Byt l) (hR2 : Rd w w.heap.size A2 n2 l2) (hY2 : Byt l2) (hR3 : Rd w w.heap.size A3 n3 l3) (hY3 : Byt l3) : Calls Try.prog 8 #[.slice A n c, .slice A2 n2 c2, .slice A3 n3 c3] w fun e w' => e = .returned (.bool true) ∧ Below w.heap.size w w' := by
  have HR := Lib.hid hR
  have HR2 := Lib.hid hR2
  have HR3 := Lib.hid hR3
  have HY := Lib.hid hY
  have HY2 := Lib.hid hY2
  have HY3 := Lib.hid hY3
  clear hR hR2 hR3 hY hY2 hY3
  by_cases u1 : n ≤ 40
  rotate_left
  · have k1 : (40 : Int) < (n : Int) := by omega
    clear u1
    go_enter Try.func8, Try.ntmps8
    go_wp2_with fail
    refine (begun_any w).mono ?_
    rintro e y0 ⟨rfl, hY0⟩
    go_wp2_with fail
    go_ret
    exact ⟨rfl, hY0⟩
  by_cases u2 : n2 ≤ 40
  rotate_left
  · have k2 : (40 : Int) < (n2 : Int) := by omega
    have k1 : ¬ ((40 : Int) < (n : Int)) := by omega
    clear u1 u2
    go_enter Try.func8, Try.ntmps8
    go_wp2_with fail
    refine (begun_any w).mono ?_
    rintro e y0 ⟨rfl, hY0⟩
    go_wp2_with fail
    go_ret
    exact ⟨rfl, hY0⟩
  by_cases u3 : n3 ≤ 50
  rotate_left
  · have k3 : (50 : Int) < (n3 : Int) := by omega
    have k1 : ¬ ((40 : Int) < (n : Int)) := by omega
    have k2 : ¬ ((40 : Int) < (n2 : Int)) := by omega
    clear u1 u2 u3
    go_enter Try.func8, Try.ntmps8
    go_wp2_with fail
    refine (begun_any w).mono ?_
    rintro e y0 ⟨rfl, hY0⟩
    go_wp2_with fail
    go_ret
    exact ⟨rfl, hY0⟩
  have k1 : ¬ ((40 : Int) < (n : Int)) := by omega
  have k2 : ¬ ((40 : Int) < (n2 : Int)) := by omega
  have k3 : ¬ ((50 : Int) < (n3 : Int)) := by omega
  go_enter Try.func8, Try.ntmps8
  go_wp2_with fail
  refine (begun_any w).mono ?_
  rintro e y0 ⟨rfl, hY0⟩
  have HB := hY0
  go_wp2_with fail
  have RB := HR.out.on HB HB.size
  refine (made_any A n c l 0 0 y0 RB HY.out (by omega) (by omega) (by omega)).mono ?_
  rintro e y1 ⟨A11, c11, rfl, hO1, hYm⟩
  replace HB := HB.trans (hYm.mono HB.size)
  clear hYm
  clear RB
  have R1 := hO1.cap.2.2.2
  have c11h := Lib.hid hO1.cap.2.1
  clear hO1
  go_wp2_with fail
  have RB := HR2.out.on HB HB.size
  refine (made_any A2 n2 c2 l2 0 0 y1 RB HY2.out (by omega) (by omega) (by omega)).mono ?_
  rintro e y2 ⟨A12, c12, rfl, hO2, hYm⟩
  replace HB := HB.trans (hYm.mono HB.size)
  replace R1 := R1.on hYm hYm.size
  clear hYm
  clear RB
  have R2 := hO2.cap.2.2.2
  have c12h := Lib.hid hO2.cap.2.1
  clear hO2
  have F1 := Lib.hid (fit_may (made_may (b := 0) (t := 0) (l := l) (by omega) (by omega) (by rw [HR.out.1]; omega)) (by show (madeE _ l).length ≤ _; rw [madeE_length, HR.out.1]; omega))
  have F2 := Lib.hid (fit_may (made_may (b := 0) (t := 0) (l := l2) (by omega) (by omega) (by rw [HR2.out.1]; omega)) (by show (madeE _ l2).length ≤ _; rw [madeE_length, HR2.out.1]; omega))
  have hll := Lib.hid (show (madeL 0 0 l).es.length = n by show (madeE _ l).length = n; rw [madeE_length, HR.out.1])
  have hll2 := Lib.hid (show (madeL 0 0 l2).es.length = n2 by show (madeE _ l2).length = n2; rw [madeE_length, HR2.out.1])
  have b1 := Lib.hid (show (madeL 0 0 l).b = 0 ∧ (madeL 0 0 l).t = 0 from ⟨rfl, rfl⟩)
  have b2 := Lib.hid (show (madeL 0 0 l2).b = 0 ∧ (madeL 0 0 l2).t = 0 from ⟨rfl, rfl⟩)
  generalize madeL 0 0 l = L1 at *
  generalize madeL 0 0 l2 = O at *
  replace u1 := Lib.hid u1
  replace u2 := Lib.hid u2
  replace u3 := Lib.hid u3
  clear HR HY HR2 HY2 k1 k2 k3
  have N1 : Hid (∀ w', Below y2.heap.size y2 w' → RdN w' y2.heap.size A11 n L1.es) := fun w' hb => RdN.of_rd (R1.below hb) (Nat.le_refl _) hb.size
  have N2 : Hid (∀ w', Below y2.heap.size y2 w' → RdE w' w'.heap.size A12 n2 O.es) := fun w' hb => R2.on hb hb.size
  have N3 : Hid (∀ w', Below y2.heap.size y2 w' → Rd w' w.heap.size A3 n3 l3) := fun w' hb => (HR3.out.below HB).below (hb.mono HB.size)
  have hg0 := Lib.hid HB.size
  have HB0 := Lib.hid HB
  clear HB R1 R2 HR3
  have t3 := Below.refl y2.heap.size y2
  go_wp2_with (refine kit.al_L rfl rfl ?_)
  intro x4 zkA e4 s4
  have lekA := t3.size
  replace t3 := t3.trans (e4.mono t3.size)
  go_wp2_with (refine kit.al_L rfl rfl ?_)
  intro x5 zkB e5 s5
  replace zkA := zkA.below e5 zkA.lt
  have lekB := t3.size
  replace t3 := t3.trans (e5.mono t3.size)
  have nekAkB : y2.heap.size ≠ x4.heap.size := by have := s4.out; have := s5.out; omega
  go_wp2_with (refine kit.st_L rfl _ _ rfl L1 A11 n c11 rfl rfl _ zkA rfl ?_)
  intro y6 kA p6
  replace zkB := zkB.put p6 (Ne.symm nekAkB)
  replace t3 := p6.below _ _ t3 lekA
  go_wp2_with (refine kit.st_L rfl _ _ rfl O A12 n2 c12 rfl rfl _ zkB rfl ?_)
  intro y7 kB p7
  replace kA := kA.put p7 nekAkB
  replace t3 := p7.below _ _ t3 lekB
  have NEkAkB := Lib.hid (Ne.symm nekAkB)
  have HB := t3
  clear s4 s5 e4 e5 lekA lekB t3 nekAkB
  generalize y2.heap.size = gkA at *
  generalize x4.heap.size = gkB at *
  try clear zkA zkB
  go_wp2_with (first | refine kit.ld_L rfl _ rfl rfl kA ?_ | refine kit.ld_L rfl _ rfl rfl kB ?_)
  go_loopw [9, 10] (fun av iv wr => ∃ (i k : Nat) (L : LgL) (A' : Option Addr) (n' c' : Nat), i ≤ n3 + k ∧ k ≤ n2 ∧ av = .int .i64 (k : Int) ∧ iv = .int .i64 (i : Int) ∧ Hid (Blk 30 wr gkA (lgC L (.slice A' n' c'))) ∧ Hid (Blk 30 wr gkB (lgC O (.slice A12 n2 c12))) ∧ Hid (RdN wr gkA A' n' L.es) ∧ Hid (n' ≤ c') ∧ Hid (L.b = 0 ∧ L.t = 0 ∧ L.es.length ≤ 40 ∧ Agr L O k) ∧ Hid (Below gkA y2 wr)) (fun av iv _ => (n3 - (intOf iv).toNat) + (n2 - (intOf av).toNat))
  case atStart => exact ⟨0, 0, L1, A11, n, c11, by omega, by omega, rfl, rfl, Lib.hid kA, Lib.hid kB, Lib.hid (N1.out _ HB), c11h, Lib.hid ⟨b1.out.1, b1.out.2, by rw [hll.out]; exact u1.out, fun j hj => absurd hj (by omega)⟩, Lib.hid HB⟩
  case round =>
    obtain ⟨i, k, L, A', n', c', hik, hk, rfl, rfl, HkA, HkB, HN, hcc, HL, HBr⟩ := hrel
    clear HB kA kB
    have FL : Hid (Fit L) := ⟨by rw [HL.out.1]; decide, by rw [HL.out.1]; decide, by have := HL.out.2.2.1; omega⟩
    by_cases hi : i < n3
    · skip
      have kA := HkA.out
      have kB := HkB.out
      have N := HN.out
      have HB := HBr.out
      have R2 := N2.out _ HB
      have c1 : (i : Int) < (n3 : Int) := by omega
      obtain ⟨bs, os, rfl, hbs, hcs⟩ := (N3.out _ HB).2 (by omega)
      have hci := hcs i hi
      have hxb := HY3.out.at_ i
      generalize l3.getD i 0 = x at *
      clear hcs
      have hrm : Int.tmod x 6 = x % 6 := Int.tmod_eq_emod_of_nonneg hxb.1
      obtain ⟨q, hq⟩ : ∃ q : Nat, (q : Int) = x % 6 := ⟨(x % 6).toNat, by omega⟩
      have hq5 : q ≤ 5 := by omega
      rw [← hq] at hrm
      have wq2 : IntKind.i64.wrap (q : Int) = (q : Int) := kit.wrap_sm (by omega) (by omega)
      replace hq := Lib.hid hq
      replace hxb := Lib.hid hxb
      have wk : IntKind.i64.wrap ((k : Int) + 1) = (k : Int) + 1 := kit.wrap_sm (by have := u2.out; have := u3.out; omega) (by have := u2.out; have := u3.out; omega)
      have wi : IntKind.i64.wrap ((i : Int) + 1) = ((i + 1 : Nat) : Int) := by rw [kit.wrap_sm (by have := u2.out; have := u3.out; omega) (by have := u2.out; have := u3.out; omega)]; omega
      go_wp2_with (first | refine kit.ld_L rfl _ rfl rfl kA ?_ | refine kit.ld_L rfl _ rfl rfl kB ?_)
      have CC := enti.term_any O A12 n2 c12 (k : Int) wr wr.heap.size R2 (Nat.le_refl _) c12h.out F2.out
      obtain ⟨hsl, _, M, hm1, hm2, hm3, hm4, hm5⟩ := agr_piece (q := q) HL.out.1 b2.out.1 (by rw [HL.out.2.1, b2.out.2]) HL.out.2.2.2
      obtain ⟨tm, htm⟩ : ∃ z, (termF O (k : Int)).1 = z := ⟨_, rfl⟩
      obtain ⟨tb, htb⟩ : ∃ z, (termF O (k : Int)).2 = z := ⟨_, rfl⟩
      rw [htm, htb] at CC
      rw [htm] at hm1
      rw [hll2.out] at hsl hm4
      clear htm htb
      replace hm1 := Lib.hid hm1
      replace hm2 := Lib.hid hm2
      replace hm3 := Lib.hid hm3
      replace hm4 := Lib.hid hm4
      replace hm5 := Lib.hid hm5
      replace hsl := Lib.hid hsl
      refine (CC).mono ?_
      rintro e y21 ⟨rfl, hY⟩
      replace HB := HB.trans (hY.mono (Nat.le_of_lt kA.lt))
      replace kA := kA.below hY kA.lt
      replace kB := kB.below hY kB.lt
      replace R2 := R2.on hY hY.size
      replace N := N.below hY
      clear hY
      clear CC
      go_wp2_with (first | refine kit.ld_L rfl _ rfl rfl kA ?_ | refine kit.ld_L rfl _ rfl rfl kB ?_)
      have CC := enti.slice_any O A12 n2 c12 ((k : Int) + 1) ((q : Nat) : Int) y21 y21.heap.size R2 (Nat.le_refl _) c12h.out F2.out (by have := u2.out; unfold In64; omega) (by unfold In64; omega)
      obtain ⟨SL, hSL⟩ : ∃ z, sliceF O ((k : Int) + 1) ((q : Nat) : Int) = z := ⟨_, rfl⟩
      rw [hSL] at CC hm1 hm5 hsl
      clear hSL
      refine CC.mono ?_
      rintro e y22 ⟨A5, n5, c5, rfl, hn5, hO5, hY⟩
      replace HB := HB.trans (hY.mono (Nat.le_of_lt kA.lt))
      replace kA := kA.below hY kA.lt
      replace kB := kB.below hY kB.lt
      replace R2 := R2.on hY hY.size
      replace N := N.below hY
      clear hY
      clear CC
      have R5 := hO5.cap.2.2.2
      have c5h := Lib.hid hO5.cap.2.1
      clear hO5
      rw [← hn5] at hm1 hm5 hsl
      have hsl2 := hsl.out
      replace hn5 := Lib.hid hn5
      have hn5b : n5 ≤ n2 - k := by omega
      clear hsl hsl2
      have w5 : IntKind.i64.wrap ((k : Int) + (n5 : Int)) = (k : Int) + (n5 : Int) := kit.wrap_sm (by have := u2.out; have := u3.out; omega) (by have := u2.out; have := u3.out; omega)
      go_wp2_with (first | refine kit.ld_L rfl _ rfl rfl kA ?_ | refine kit.ld_L rfl _ rfl rfl kB ?_)
      have CC := enti.merge_any L A' n' c' (k : Int) tm A5 n5 c5 SL y22 y22.heap.size N.rd (Nat.le_refl _) hcc.out FL.out y22.heap.size R5 (Nat.le_refl _) c5h.out (by have := u2.out; omega)
      rw [hm1.out] at CC
      dsimp only at CC
      have hgA := kA.lt
      refine CC.mono ?_
      rintro e y23 ⟨A6, n6, c6, rfl, hn6, hO6, hY⟩
      replace HB := HB.trans (hY.mono (Nat.le_of_lt kA.lt))
      replace kA := kA.below hY kA.lt
      replace kB := kB.below hY kB.lt
      replace R2 := R2.on hY hY.size
      replace R5 := R5.on hY hY.size
      replace N := N.below hY
      clear hY
      clear CC
      have N6 := RdN.of_own hO6 hgA
      have c6h := Lib.hid hO6.cap.2.1
      clear hO6 hgA
      replace hn6 := Lib.hid hn6
      have lkA := kA.lt
      have lkB := kB.lt
      have t24 := Below.refl y23.heap.size y23
      go_wp2_with (refine kit.al_L rfl rfl ?_)
      intro x25 zkC e25 s25
      replace kA := kA.below e25 kA.lt
      replace kB := kB.below e25 kB.lt
      have lekC := t24.size
      replace t24 := t24.trans (e25.mono t24.size)
      go_wp2_with (refine kit.st_L rfl _ _ rfl M A6 n6 c6 rfl rfl _ zkC rfl ?_)
      intro y26 kC p26
      replace kA := kA.put p26 (Nat.ne_of_lt (Nat.lt_of_lt_of_le lkA lekC))
      replace kB := kB.put p26 (Nat.ne_of_lt (Nat.lt_of_lt_of_le lkB lekC))
      replace t24 := p26.below _ _ t24 lekC
      have NEkAkC := Lib.hid (Nat.ne_of_gt (Nat.lt_of_lt_of_le lkA lekC))
      replace R2 := R2.on t24 t24.size
      replace R5 := R5.on t24 t24.size
      replace N := N.below t24
      replace N6 := N6.below t24
      replace HB := HB.trans (t24.mono (Nat.le_of_lt lkA))
      clear lkA lkB s25 e25 lekC t24
      generalize y23.heap.size = gkC at *
      try clear zkC
      go_upto_region 20 with (first | refine kit.ld_L rfl _ rfl rfl kA ?_ | refine kit.ld_L rfl _ rfl rfl kB ?_ | refine kit.ld_L rfl _ rfl rfl kC ?_)
      go_wp2_with (first | refine kit.ld_L rfl _ rfl rfl kC ?_ | refine kit.st_L rfl _ _ rfl M A6 n6 c6 rfl rfl _ kA rfl ?_)
      intro yz kZ pz
      have kB2 := kB.put pz NEkAkB.out
      have N7 := N6.put pz
      have HB2 := pz.below _ _ HB (Nat.le_refl _)
      clear kA kB kC N N6 HB R2 R5 pz
      go_wp2_with fail
      go_roundw
      case rel => exact ⟨i + 1, k + n5, M, A6, n6, c6, by omega, by omega, congrArg (Value.int .i64) (by omega), rfl, Lib.hid kZ, Lib.hid kB2, Lib.hid N7, c6h, Lib.hid ⟨hm2.out, by rw [hm3.out, b2.out.2], by have := hm4.out; have := HL.out.2.2.1; have := u2.out; omega, hm5.out⟩, Lib.hid HB2⟩
      case measure => simp only [intOf]; omega
    · by_cases hkn : k < n2
      · skip
        have kA := HkA.out
        have kB := HkB.out
        have N := HN.out
        have HB := HBr.out
        have R2 := N2.out _ HB
        have c1 : ¬ ((i : Int) < (n3 : Int)) := by omega
        have c2 : (k : Int) < (n2 : Int) := by omega
        have c3 : ¬ ((200 : Int) < (i : Int)) := by have := u2.out; have := u3.out; omega
        have wk : IntKind.i64.wrap ((k : Int) + 1) = (k : Int) + 1 := kit.wrap_sm (by have := u2.out; have := u3.out; omega) (by have := u2.out; have := u3.out; omega)
        have wi : IntKind.i64.wrap ((i : Int) + 1) = ((i + 1 : Nat) : Int) := by rw [kit.wrap_sm (by have := u2.out; have := u3.out; omega) (by have := u2.out; have := u3.out; omega)]; omega
        go_wp2_with (first | refine kit.ld_L rfl _ rfl rfl kA ?_ | refine kit.ld_L rfl _ rfl rfl kB ?_)
        have CC := enti.term_any O A12 n2 c12 (k : Int) wr wr.heap.size R2 (Nat.le_refl _) c12h.out F2.out
        obtain ⟨hsl, _, M, hm1, hm2, hm3, hm4, hm5⟩ := agr_piece (q := 3) HL.out.1 b2.out.1 (by rw [HL.out.2.1, b2.out.2]) HL.out.2.2.2
        obtain ⟨tm, htm⟩ : ∃ z, (termF O (k : Int)).1 = z := ⟨_, rfl⟩
        obtain ⟨tb, htb⟩ : ∃ z, (termF O (k : Int)).2 = z := ⟨_, rfl⟩
        rw [htm, htb] at CC
        rw [htm] at hm1
        rw [hll2.out] at hsl hm4
        clear htm htb
        replace hm1 := Lib.hid hm1
        replace hm2 := Lib.hid hm2
        replace hm3 := Lib.hid hm3
        replace hm4 := Lib.hid hm4
        replace hm5 := Lib.hid hm5
        replace hsl := Lib.hid hsl
        refine (CC).mono ?_
        rintro e y21 ⟨rfl, hY⟩
        replace HB := HB.trans (hY.mono (Nat.le_of_lt kA.lt))
        replace kA := kA.below hY kA.lt
        replace kB := kB.below hY kB.lt
        replace R2 := R2.on hY hY.size
        replace N := N.below hY
        clear hY
        clear CC
        go_wp2_with (first | refine kit.ld_L rfl _ rfl rfl kA ?_ | refine kit.ld_L rfl _ rfl rfl kB ?_)
        have CC := enti.slice_any O A12 n2 c12 ((k : Int) + 1) ((3 : Nat) : Int) y21 y21.heap.size R2 (Nat.le_refl _) c12h.out F2.out (by have := u2.out; unfold In64; omega) (by unfold In64; omega)
        obtain ⟨SL, hSL⟩ : ∃ z, sliceF O ((k : Int) + 1) ((3 : Nat) : Int) = z := ⟨_, rfl⟩
        rw [hSL] at CC hm1 hm5 hsl
        clear hSL
        refine CC.mono ?_
        rintro e y22 ⟨A5, n5, c5, rfl, hn5, hO5, hY⟩
        replace HB := HB.trans (hY.mono (Nat.le_of_lt kA.lt))
        replace kA := kA.below hY kA.lt
        replace kB := kB.below hY kB.lt
        replace R2 := R2.on hY hY.size
        replace N := N.below hY
        clear hY
        clear CC
        have R5 := hO5.cap.2.2.2
        have c5h := Lib.hid hO5.cap.2.1
        clear hO5
        rw [← hn5] at hm1 hm5 hsl
        have hsl2 := hsl.out
        replace hn5 := Lib.hid hn5
        have hn5b : n5 ≤ n2 - k := by omega
        have hn5c : 1 ≤ n5 := by omega
        clear hsl hsl2
        have w5 : IntKind.i64.wrap ((k : Int) + (n5 : Int)) = (k : Int) + (n5 : Int) := kit.wrap_sm (by have := u2.out; have := u3.out; omega) (by have := u2.out; have := u3.out; omega)
        go_wp2_with (first | refine kit.ld_L rfl _ rfl rfl kA ?_ | refine kit.ld_L rfl _ rfl rfl kB ?_)
        have CC := enti.merge_any L A' n' c' (k : Int) tm A5 n5 c5 SL y22 y22.heap.size N.rd (Nat.le_refl _) hcc.out FL.out y22.heap.size R5 (Nat.le_refl _) c5h.out (by have := u2.out; omega)
        rw [hm1.out] at CC
        dsimp only at CC
        have hgA := kA.lt
        refine CC.mono ?_
        rintro e y23 ⟨A6, n6, c6, rfl, hn6, hO6, hY⟩
        replace HB := HB.trans (hY.mono (Nat.le_of_lt kA.lt))
        replace kA := kA.below hY kA.lt
        replace kB := kB.below hY kB.lt
        replace R2 := R2.on hY hY.size
        replace R5 := R5.on hY hY.size
        replace N := N.below hY
        clear hY
        clear CC
        have N6 := RdN.of_own hO6 hgA
        have c6h := Lib.hid hO6.cap.2.1
        clear hO6 hgA
        replace hn6 := Lib.hid hn6
        have lkA := kA.lt
        have lkB := kB.lt
        have t24 := Below.refl y23.heap.size y23
        go_wp2_with (refine kit.al_L rfl rfl ?_)
        intro x25 zkC e25 s25
        replace kA := kA.below e25 kA.lt
        replace kB := kB.below e25 kB.lt
        have lekC := t24.size
        replace t24 := t24.trans (e25.mono t24.size)
        go_wp2_with (refine kit.st_L rfl _ _ rfl M A6 n6 c6 rfl rfl _ zkC rfl ?_)
        intro y26 kC p26
        replace kA := kA.put p26 (Nat.ne_of_lt (Nat.lt_of_lt_of_le lkA lekC))
        replace kB := kB.put p26 (Nat.ne_of_lt (Nat.lt_of_lt_of_le lkB lekC))
        replace t24 := p26.below _ _ t24 lekC
        have NEkAkC := Lib.hid (Nat.ne_of_gt (Nat.lt_of_lt_of_le lkA lekC))
        replace R2 := R2.on t24 t24.size
        replace R5 := R5.on t24 t24.size
        replace N := N.below t24
        replace N6 := N6.below t24
        replace HB := HB.trans (t24.mono (Nat.le_of_lt lkA))
        clear lkA lkB s25 e25 lekC t24
        generalize y23.heap.size = gkC at *
        try clear zkC
        go_upto_region 20 with (first | refine kit.ld_L rfl _ rfl rfl kA ?_ | refine kit.ld_L rfl _ rfl rfl kB ?_ | refine kit.ld_L rfl _ rfl rfl kC ?_)
        go_wp2_with (first | refine kit.ld_L rfl _ rfl rfl kC ?_ | refine kit.st_L rfl _ _ rfl M A6 n6 c6 rfl rfl _ kA rfl ?_)
        intro yz kZ pz
        have kB2 := kB.put pz NEkAkB.out
        have N7 := N6.put pz
        have HB2 := pz.below _ _ HB (Nat.le_refl _)
        clear kA kB kC N N6 HB R2 R5 pz
        go_wp2_with fail
        go_roundw
        case rel => exact ⟨i + 1, k + n5, M, A6, n6, c6, by omega, by omega, congrArg (Value.int .i64) (by omega), rfl, Lib.hid kZ, Lib.hid kB2, Lib.hid N7, c6h, Lib.hid ⟨hm2.out, by rw [hm3.out, b2.out.2], by have := hm4.out; have := HL.out.2.2.1; have := u2.out; omega, hm5.out⟩, Lib.hid HB2⟩
        case measure => simp only [intOf]; omega
      · skip
        have kA := HkA.out
        have kB := HkB.out
        have N := HN.out
        have HB := HBr.out
        have R2 := N2.out _ HB
        obtain rfl : k = n2 := by omega
        have c1 : ¬ ((i : Int) < (n3 : Int)) := by omega
        have c2 : ¬ ((k : Int) < (k : Int)) := by omega
        have hnn : Hid (n' = L.es.length) := N.rd.1.symm
        have hle := HL.out.2.2.2.le.1
        go_wp2_with (first | refine kit.ld_L rfl _ rfl rfl kA ?_ | refine kit.ld_L rfl _ rfl rfl kB ?_)
        have CC := enti.last_any L A' n' c' wr hnn.out.symm FL.out
        have hla : lastF L = (L.es.length : Int) := by unfold lastF; rw [HL.out.1, Int.zero_add]
        rw [hla] at CC
        clear hla
        have c3 : (k : Int) ≤ (L.es.length : Int) := by omega
        refine (CC).mono ?_
        rintro e y21 ⟨rfl, hY⟩
        replace HB := HB.trans (hY.mono (Nat.le_of_lt kA.lt))
        replace kA := kA.below hY kA.lt
        replace kB := kB.below hY kB.lt
        replace R2 := R2.on hY hY.size
        replace N := N.below hY
        clear hY
        clear CC
        go_wp2_with (first | refine kit.ld_L rfl _ rfl rfl kA ?_ | refine kit.ld_L rfl _ rfl rfl kB ?_)
        have CC := alike_any L O A' n' c' A12 k c12 y21 y21.heap.size y21.heap.size N.rd (Nat.le_refl _) R2 (Nat.le_refl _) hcc.out c12h.out FL.out F2.out HL.out.1 b2.out.1 HL.out.2.2.2
        refine (CC).mono ?_
        rintro e y22 ⟨rfl, hY⟩
        replace HB := HB.trans (hY.mono (Nat.le_of_lt kA.lt))
        replace kA := kA.below hY kA.lt
        replace kB := kB.below hY kB.lt
        replace R2 := R2.on hY hY.size
        replace N := N.below hY
        clear hY
        clear CC
        go_wp2_with (first | refine kit.ld_L rfl _ rfl rfl kA ?_ | refine kit.ld_L rfl _ rfl rfl kB ?_)
        go_ret
        exact ⟨by first | rfl | simp, HB0.out.trans (HB.mono hg0.out)⟩
end Go.Proofs.Yteadkgjikaikjaa.law12
