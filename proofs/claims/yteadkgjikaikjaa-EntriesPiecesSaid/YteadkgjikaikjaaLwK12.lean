/- What the statements' alike comes to of two logs that agree. Conditions: the logs begin at 0, and agree. -/
import Derived.Test.YteadkgjikaikjaaRefE12
import Derived.Test.YteadkgjikaikjaaVr12
import Derived.Test.YteadkgjikaikjaaKitLg
import Derived.Test.YteadkgjikaikjaaTk
import Derived.Deep.RegionHeld3
import Derived.Deep.Cut
import Derived.Lib.Hide
namespace Go.Proofs.Yteadkgjikaikjaa.law12
open Go Go.RowKit Go.Proofs.Yteadkgjikaikjaa.kit Go.Proofs.Yteadkgjikaikjaa.nums Go.Proofs.Yteadkgjikaikjaa.cf Go.Proofs.Yteadkgjikaikjaa.lg
set_option linter.unusedVariables false
set_option maxHeartbeats 2000000 in
theorem alike_any (L M : LgL) (A : Option Addr) (n c : Nat) (A2 : Option Addr) (n2 c2 : Nat) (w : World) (B B2 : Nat) (hR : RdE w B A n L.es) (hB : B ≤ w.heap.size) (hR2 : RdE w B2 A2 n2 M.es) (hB2 : B2 ≤ w.heap.size) (hc : n ≤ c) (hc2 : n2 ≤ c2) (hf : Fit L) (hf2 : Fit M) (h01 : L.b = 0) (h02 : M.b = 0) (hag : ∀ k, k < n2 → ∃ x y, L.es[k]? = some x ∧ M.es[k]? = some y ∧ x.t = y.t) : Calls Try.prog 37 #[lgV L (.slice A n c), lgV M (.slice A2 n2 c2)] w fun e w' => e = .returned (.bool true) ∧ Below w.heap.size w w' := by
  have HF := Lib.hid hf
  have HF2 := Lib.hid hf2
  have HAg := Lib.hid hag
  have hlast : lastF M = (n2 : Int) := by unfold lastF; rw [h02, hR2.1, Int.zero_add]
  have hnn := Lib.hid (show n2 ≤ 1000000 by have := hf2.2.2; rw [hR2.1] at this; exact this)
  have HI1 : Hid (∀ (k : Nat) (x : EnL), L.es[k]? = some x → atF L ((k : Int) + 1) = (x, true)) := fun k x h => atF_in (by rw [h01]; omega) h
  have HI2 : Hid (∀ (k : Nat) (x : EnL), M.es[k]? = some x → atF M ((k : Int) + 1) = (x, true)) := fun k x h => atF_in (by rw [h02]; omega) h
  have R := hR.more hB
  have R2 := hR2.more hB2
  have HLa := Lib.hid hlast
  clear hR hR2 hB hB2 hf hf2 hag h01 h02 hlast
  go_enter Try.func37, Try.ntmps37
  go_wp2_with (refine kit.box_L rfl _ rfl L (.slice A n c) rfl ?_)
  intro y1 kL e1 s1
  clear s1
  replace R := R.on e1 e1.size
  replace R2 := R2.on e1 e1.size
  have HB := e1
  clear e1
  go_wp2_with (refine kit.box_L rfl _ rfl M (.slice A2 n2 c2) rfl ?_)
  intro y2 kM e2 s2
  clear s2
  have dkLkM := Nat.ne_of_lt kL.lt
  replace kL := kL.below e2 kL.lt
  replace R := R.on e2 e2.size
  replace R2 := R2.on e2 e2.size
  replace HB := HB.trans (e2.mono HB.size)
  clear e2
  go_wp2_with (first | refine kit.ld_L rfl _ rfl rfl kL ?_ | refine kit.ld_L rfl _ rfl rfl kM ?_)
  have BkL := Lib.hid kL
  clear kL
  have BkM := Lib.hid kM
  clear kM
  have BR := Lib.hid R
  clear R
  have BR2 := Lib.hid R2
  clear R2
  have BH := Lib.hid HB
  clear HB
  go_loopw [5] (fun iv wr => ∃ k : Nat, k ≤ n2 ∧ iv = .int .i64 ((k : Int) + 1) ∧ Hid (Below y2.heap.size y2 wr)) (fun iv _ => n2 + 1 - (intOf iv).toNat)
  case atStart => exact ⟨0, Nat.zero_le _, rfl, Lib.hid (Below.refl _ _)⟩
  case round =>
    obtain ⟨k, hk, rfl, HY⟩ := hrel
    have kL := BkL.out.below HY.out BkL.out.lt
    have kM := BkM.out.below HY.out BkM.out.lt
    have R := BR.out.on HY.out HY.out.size
    have R2 := BR2.out.on HY.out HY.out.size
    have HB := HY.out
    have CL := ref12.rlast_any M A2 n2 c2 wr R2.1 HF2.out
    rw [HLa.out] at CL
    by_cases hkn : k < n2
    · skip
      obtain ⟨x, y, hx, hy, hxy⟩ := HAg.out k hkn
      have hk1 : (k : Int) + 1 ≤ (n2 : Int) := by omega
      have wk : IntKind.i64.wrap ((k : Int) + 1 + 1) = (k : Int) + 1 + 1 := by have := hnn.out; rw [kit.wrap_sm (by omega) (by omega)]
      have hat := Lib.hid (HI1.out k x hx)
      have hbt := Lib.hid (HI2.out k y hy)
      have hxb : (x.t != y.t) = false := by simp [hxy]
      clear hx hy HI1 HI2 HAg
      replace hxy := Lib.hid hxy
      go_wp2_with (first | refine kit.ld_L rfl _ rfl rfl kL ?_ | refine kit.ld_L rfl _ rfl rfl kM ?_)
      refine (CL).mono ?_
      rintro e y3 ⟨rfl, hY⟩
      replace kL := kL.below hY kL.lt
      replace kM := kM.below hY kM.lt
      replace R := R.on hY hY.size
      replace R2 := R2.on hY hY.size
      replace HB := HB.trans (hY.mono HB.size)
      clear hY
      go_wp2_with (first | refine kit.ld_L rfl _ rfl rfl kL ?_ | refine kit.ld_L rfl _ rfl rfl kM ?_)
      have CA := ref12.rat_any L A n c ((k : Int) + 1) y3 y3.heap.size R (Nat.le_refl _) hc HF.out
      rw [hat.out] at CA
      refine (CA).mono ?_
      rintro e y4 ⟨rfl, hY⟩
      replace kL := kL.below hY kL.lt
      replace kM := kM.below hY kM.lt
      replace R := R.on hY hY.size
      replace R2 := R2.on hY hY.size
      replace HB := HB.trans (hY.mono HB.size)
      clear hY
      have lkL := kL.lt
      have lkM := kM.lt
      have t5 := Below.refl y4.heap.size y4
      go_wp2_with (refine kit.al_E rfl rfl ?_)
      intro x6 zkX e6 s6
      replace kL := kL.below e6 kL.lt
      replace kM := kM.below e6 kM.lt
      have lekX := t5.size
      replace t5 := t5.trans (e6.mono t5.size)
      go_wp2_with (refine kit.st_E rfl _ _ rfl x rfl rfl _ zkX rfl ?_)
      intro y7 kX p7
      replace kL := kL.put p7 (Nat.ne_of_lt (Nat.lt_of_lt_of_le lkL lekX))
      replace kM := kM.put p7 (Nat.ne_of_lt (Nat.lt_of_lt_of_le lkM lekX))
      replace t5 := p7.below _ _ t5 lekX
      replace R := R.on t5 t5.size
      replace R2 := R2.on t5 t5.size
      replace HB := HB.trans (t5.mono HB.size)
      clear lkL lkM s6 e6 lekX t5
      try clear zkX
      go_wp2_with (first | refine kit.ld_L rfl _ rfl rfl kL ?_ | refine kit.ld_L rfl _ rfl rfl kM ?_ | refine kit.ld_E rfl _ rfl rfl kX ?_)
      have CA := ref12.rat_any M A2 n2 c2 ((k : Int) + 1) y7 y7.heap.size R2 (Nat.le_refl _) hc2 HF2.out
      rw [hbt.out] at CA
      refine (CA).mono ?_
      rintro e y8 ⟨rfl, hY⟩
      replace kL := kL.below hY kL.lt
      replace kM := kM.below hY kM.lt
      replace kX := kX.below hY kX.lt
      replace R := R.on hY hY.size
      replace R2 := R2.on hY hY.size
      replace HB := HB.trans (hY.mono HB.size)
      clear hY
      have lkL := kL.lt
      have lkM := kM.lt
      have lkX := kX.lt
      have t9 := Below.refl y8.heap.size y8
      go_wp2_with (refine kit.al_E rfl rfl ?_)
      intro x10 zkY e10 s10
      replace kL := kL.below e10 kL.lt
      replace kM := kM.below e10 kM.lt
      replace kX := kX.below e10 kX.lt
      have lekY := t9.size
      replace t9 := t9.trans (e10.mono t9.size)
      go_wp2_with (refine kit.st_E rfl _ _ rfl y rfl rfl _ zkY rfl ?_)
      intro y11 kY p11
      replace kL := kL.put p11 (Nat.ne_of_lt (Nat.lt_of_lt_of_le lkL lekY))
      replace kM := kM.put p11 (Nat.ne_of_lt (Nat.lt_of_lt_of_le lkM lekY))
      replace kX := kX.put p11 (Nat.ne_of_lt (Nat.lt_of_lt_of_le lkX lekY))
      replace t9 := p11.below _ _ t9 lekY
      replace R := R.on t9 t9.size
      replace R2 := R2.on t9 t9.size
      replace HB := HB.trans (t9.mono HB.size)
      clear lkL lkM lkX s10 e10 lekY t9
      try clear zkY
      have cX : _ = some (Value.int .i64 x.t) := kX.cell 0
      have cY : _ = some (Value.int .i64 y.t) := kY.cell 0
      go_wp2_with (first | refine kit.ld_L rfl _ rfl rfl kL ?_ | refine kit.ld_L rfl _ rfl rfl kM ?_ | refine kit.ld_E rfl _ rfl rfl kX ?_ | refine kit.ld_E rfl _ rfl rfl kY ?_)
      go_roundw
      case rel => exact ⟨k + 1, by omega, congrArg (Value.int .i64) (by omega), Lib.hid HB⟩
      case measure => simp only [intOf]; omega
    · skip
      obtain rfl : k = n2 := by omega
      have hk1 : ¬ ((k : Int) + 1 ≤ (k : Int)) := by omega
      clear HI1 HI2 HAg
      go_wp2_with (first | refine kit.ld_L rfl _ rfl rfl kL ?_ | refine kit.ld_L rfl _ rfl rfl kM ?_)
      refine (CL).mono ?_
      rintro e y3 ⟨rfl, hY⟩
      replace kL := kL.below hY kL.lt
      replace kM := kM.below hY kM.lt
      replace R := R.on hY hY.size
      replace R2 := R2.on hY hY.size
      replace HB := HB.trans (hY.mono HB.size)
      clear hY
      go_wp2_with (first | refine kit.ld_L rfl _ rfl rfl kL ?_ | refine kit.ld_L rfl _ rfl rfl kM ?_)
      go_ret
      exact ⟨rfl, BH.out.trans (HB.mono BH.out.size)⟩
end Go.Proofs.Yteadkgjikaikjaa.law12
