/- EntriesCompact's walk: a compacted log tells the same of all that is behind, and merges the same. Conditions: none. -/
import Derived.Test.YteadkgjikaikjaaLwM12
import Derived.Test.YteadkgjikaikjaaLwB12
import Derived.Test.YteadkgjikaikjaaCm12
import Derived.Test.YteadkgjikaikjaaVr12
import Derived.Test.YteadkgjikaikjaaEntD
import Derived.Test.YteadkgjikaikjaaEqE12
import Derived.Test.YteadkgjikaikjaaRefGc12
import Derived.Test.YteadkgjikaikjaaKitLg
import Derived.Test.YteadkgjikaikjaaTk
import Derived.Deep.RegionHeld3
import Derived.Deep.Cut
import Derived.Lib.Hide
namespace Go.Proofs.Yteadkgjikaikjaa.law12
open Go Go.RowKit Go.Proofs.Yteadkgjikaikjaa.kit Go.Proofs.Yteadkgjikaikjaa.nums Go.Proofs.Yteadkgjikaikjaa.cf Go.Proofs.Yteadkgjikaikjaa.lg
set_option linter.unusedVariables false
set_option maxHeartbeats 4000000 in
set_option maxRecDepth 10000 in
theorem compact_walk (A : Option Addr) (n c : Nat) (l : List Int) (A2 : Option Addr) (n2 c2 : Nat) (l2 : List Int) (pv q : Int) (w : World) (hR : Rd w w.heap.size A n l) (hY : Byt l) (hR2 : Rd w w.heap.size A2 n2 l2) (hY2 : Byt l2) : Calls Try.prog 6 #[.slice A n c, .slice A2 n2 c2, .int .i64 pv, .int .i64 q] w fun e w' => e = .returned (.bool true) ∧ Below w.heap.size w w' := by
  have HR := Lib.hid hR
  have HR2 := Lib.hid hR2
  have HY := Lib.hid hY
  have HY2 := Lib.hid hY2
  clear hR hR2 hY hY2
  by_cases u1 : n ≤ 40
  rotate_left
  · have k1 : (40 : Int) < (n : Int) := by omega
    clear u1
    go_enter Try.func6, Try.ntmps6
    go_wp2_with fail
    refine (begun_any w).mono ?_
    rintro e y0 ⟨rfl, hY0⟩
    go_wp2_with fail
    go_ret
    exact ⟨rfl, hY0⟩
  by_cases u2 : n2 ≤ 40
  rotate_left
  · have k2 : (40 : Int) < (n2 : Int) := by omega
    have k1 : ¬ ((40 : Int) < (n : Int)) := by omega
    clear u1 u2
    go_enter Try.func6, Try.ntmps6
    go_wp2_with fail
    refine (begun_any w).mono ?_
    rintro e y0 ⟨rfl, hY0⟩
    go_wp2_with fail
    go_ret
    exact ⟨rfl, hY0⟩
  have k1 : ¬ ((40 : Int) < (n : Int)) := by omega
  have k2 : ¬ ((40 : Int) < (n2 : Int)) := by omega
  go_enter Try.func6, Try.ntmps6
  go_wp2_with fail
  refine (begun_any w).mono ?_
  rintro e y0 ⟨rfl, hY0⟩
  have HB := hY0
  go_wp2_with fail
  have RB := HR.out.on HB HB.size
  refine (made_any A n c l 0 0 y0 RB HY.out (by omega) (by omega) (by omega)).mono ?_
  rintro e y1 ⟨A11, c11, rfl, hO1, hYm⟩
  replace HB := HB.trans (hYm.mono HB.size)
  clear hYm
  clear RB
  have R1 := hO1.cap.2.2.2
  have c11h := Lib.hid hO1.cap.2.1
  clear hO1
  have F1 := Lib.hid (fit_may (made_may (b := 0) (t := 0) (l := l) (by omega) (by omega) (by rw [HR.out.1]; omega)) (by show (madeE _ l).length ≤ _; rw [madeE_length, HR.out.1]; omega))
  have hll := Lib.hid (show (madeL 0 0 l).es.length = n by show (madeE _ l).length = n; rw [madeE_length, HR.out.1])
  have HTm : Hid (∀ i : Nat, i ≤ n → 0 ≤ (termF (madeL 0 0 l) i).1 ∧ (termF (madeL 0 0 l) i).1 ≤ 81) := fun i hi => made_term (by rw [HR.out.1]; exact u1) (by rw [HR.out.1]; exact hi)
  have b1 := Lib.hid (show (madeL 0 0 l).b = 0 from rfl)
  generalize madeL 0 0 l = L1 at *
  replace u1 := Lib.hid u1
  replace u2 := Lib.hid u2
  clear HR HY k1 k2
  have t2 := Below.refl y1.heap.size y1
  go_wp2_with (refine kit.al_L rfl rfl ?_)
  intro x3 zkA e3 s3
  have lekA := t2.size
  replace t2 := t2.trans (e3.mono t2.size)
  go_wp2_with (refine kit.st_L rfl _ _ rfl L1 A11 n c11 rfl rfl _ zkA rfl ?_)
  intro y4 kA p4
  replace t2 := p4.below _ _ t2 lekA
  replace R1 := R1.on t2 t2.size
  replace HB := HB.trans (t2.mono HB.size)
  clear s3 e3 lekA t2
  generalize y1.heap.size = gkA at *
  try clear zkA
  obtain ⟨p, hp⟩ : ∃ p : Nat, max pv 0 = (p : Int) := ⟨(max pv 0).toNat, by omega⟩
  obtain ⟨u, hu⟩ : ∃ u : Nat, u = min p n := ⟨_, rfl⟩
  have hun : u ≤ n := by omega
  have hu2 : min (p : Int) (n : Int) = (u : Int) := by omega
  have wnu : IntKind.i64.wrap ((n : Int) - (u : Int)) = ((n - u : Nat) : Int) := by rw [kit.wrap_sm (by have := u1.out; have := u2.out; omega) (by have := u1.out; have := u2.out; omega)]; omega
  obtain ⟨p3, hp3⟩ : ∃ p : Nat, max q 0 = (p : Int) := ⟨(max q 0).toNat, by omega⟩
  obtain ⟨v, hv⟩ : ∃ v : Nat, v = min p3 (n - u) := ⟨_, rfl⟩
  have hv2 : min (p3 : Int) ((n - u : Nat) : Int) = (v : Int) := by omega
  obtain ⟨z, hz⟩ : ∃ z : Nat, z = u + v := ⟨_, rfl⟩
  have wz : IntKind.i64.wrap ((u : Int) + (v : Int)) = (z : Int) := by rw [kit.wrap_sm (by have := u1.out; have := u2.out; omega) (by have := u1.out; have := u2.out; omega)]; omega
  have hzn : u ≤ z ∧ z ≤ n := by omega
  replace hu := Lib.hid hu
  replace hv := Lib.hid hv
  replace hz := Lib.hid hz
  replace hzn := Lib.hid hzn
  go_wp2_with (first | refine kit.ld_L rfl _ rfl rfl kA ?_)
  have CC := enti.compact_any L1 A11 n c11 (u : Int) y4 y4.heap.size R1 (Nat.le_refl _) c11h.out F1.out
  have hul : u ≤ L1.es.length := by rw [hll.out]; exact hun
  rw [compact_cut b1.out hul] at CC
  dsimp only at CC
  have FC : Hid (Fit (cutL L1 u)) := ⟨show 0 ≤ (u : Int) by omega, show (u : Int) ≤ _ by have := u1.out; omega, by show (L1.es.drop u).length ≤ _; rw [List.length_drop]; have := hll.out; have := u1.out; omega⟩
  have cla := Lib.hid (cut_last b1.out hul)
  have cco := Lib.hid (cut_conf (l := L1) (u := u))
  have cte : Hid (∀ i : Nat, u ≤ i → i ≤ n → termF (cutL L1 u) i = termF L1 i) := fun i h1 h2 => cut_term b1.out hul h1 (by rw [hll.out]; exact h2)
  have hll1 := Lib.hid (show lastF L1 = (n : Int) by unfold lastF; rw [b1.out, hll.out, Int.zero_add])
  have HCM : Hid (∀ (zz : Nat) (es : List EnL), u ≤ zz → zz ≤ n → ∃ m : LgL, mergeF L1 zz (termF L1 zz).1 es = (m, (zz : Int) + es.length, true) ∧ mergeF (cutL L1 u) zz (termF L1 zz).1 es = (cutL m u, (zz : Int) + es.length, true) ∧ m.b = 0 ∧ zz + es.length ≤ m.es.length ∧ m.es.length ≤ max n (zz + es.length)) := fun zz es h1 h2 => by
    obtain ⟨m, e1, e2, e3, e4, e5⟩ := cut_merge (u := u) b1.out h1 (show zz ≤ L1.es.length by rw [hll.out]; exact h2) es
    rw [hll.out] at e5
    exact ⟨m, e1, e2, e3, e4, e5⟩
  have hcl : Hid ((cutL L1 u).es.length = n - u) := by show (L1.es.drop u).length = _; rw [List.length_drop, hll.out]
  replace cla := Lib.hid (cla.out.trans (congrArg (fun x : Nat => (x : Int)) hll.out))
  have hctm := Lib.hid (HTm.out u hun)
  clear hul
  refine CC.mono ?_
  rintro e y5 ⟨A6, n6, c6, rfl, hn6, hO6, hY⟩
  replace kA := kA.below hY kA.lt
  replace R1 := R1.on hY hY.size
  replace HB := HB.trans (hY.mono HB.size)
  clear hY
  clear CC
  have R6 := hO6.cap.2.2.2
  have c6h := Lib.hid hO6.cap.2.1
  clear hO6
  replace hn6 := Lib.hid hn6
  have hn6e : Hid (n6 = n - u) := hn6.out.trans hcl.out
  have lkA := kA.lt
  have t6 := Below.refl y5.heap.size y5
  go_wp2_with (refine kit.al_L rfl rfl ?_)
  intro x7 zkC e7 s7
  replace kA := kA.below e7 kA.lt
  have lekC := t6.size
  replace t6 := t6.trans (e7.mono t6.size)
  go_wp2_with (refine kit.st_L rfl _ _ rfl (cutL L1 u) A6 n6 c6 rfl rfl _ zkC rfl ?_)
  intro y8 kC p8
  replace kA := kA.put p8 (Nat.ne_of_lt (Nat.lt_of_lt_of_le lkA lekC))
  replace t6 := p8.below _ _ t6 lekC
  replace R1 := R1.on t6 t6.size
  replace R6 := R6.on t6 t6.size
  replace HB := HB.trans (t6.mono HB.size)
  clear lkA s7 e7 lekC t6
  generalize y5.heap.size = gkC at *
  try clear zkC
  go_wp2_with (first | refine kit.ld_L rfl _ rfl rfl kA ?_ | refine kit.ld_L rfl _ rfl rfl kC ?_)
  obtain ⟨jj, hjj⟩ : ∃ x, confF L1.j L1.es = x := ⟨_, rfl⟩
  have hjq : ∀ w, (binOp .neq 27 (jV jj) (jV jj)).run Try.prog w = .ok (.bool false) w := fun w => by rw [neq_jt, decide_eq_true rfl]; rfl
  have hjg : ∀ (x y : Operand) w, (eqGuard .neq 27 x y (jV jj) (jV jj)).run Try.prog w = .ok () w := fun x y w => by kernel_rfl
  rw [hjj] at cco
  replace hjj := Lib.hid hjj
  go_upto_region 8 with (first | refine kit.ld_L rfl _ rfl rfl kA ?_ | refine kit.ld_L rfl _ rfl rfl kC ?_)
  refine wp_region_held_drew (S := fun wq => Blk 30 wq gkA (lgC L1 (.slice A11 n c11)) ∧ Blk 30 wq gkC (lgC (cutL L1 u) (.slice A6 n6 c6))) (by kernel_rfl) ?s_cmp8 (fun hHeld => ?_)
  case s_cmp8 => exact ⟨kA, kC⟩
  have hD := (Below.refl y8.heap.size y8).drew
  replace kA := kA.below hD kA.lt
  replace kC := kC.below hD kC.lt
  replace R1 := R1.on hD hD.size
  replace R6 := R6.on hD hD.size
  replace HB := HB.trans (hD.mono HB.size)
  clear hD
  generalize y8.drew = y9 at *
  refine tk 0 { dst := some 51, op := .move (.tmp 11), type := 50, pos := "law.go:145", after := #[], guard := none } _ ?_
  try simp only [Act.put, List.setIfInBounds_toArray, List.set_cons_zero, List.set_cons_succ]
  refine tk 1 { dst := some 52, op := .binOp .neq 50 (.tmp 51) (.const (.int .i64 0)) 50, type := 4, pos := "law.go:145", after := #[{ on := 0, ground := .data }], guard := none } _ ?_
  try simp only [Act.put, List.setIfInBounds_toArray, List.set_cons_zero, List.set_cons_succ]
  refine tk 2 { dst := some 53, op := .move (.tmp 52), type := 4, pos := "law.go:145", after := #[{ on := 1, ground := .data }], guard := none } _ ?_
  try simp only [Act.put, List.setIfInBounds_toArray, List.set_cons_zero, List.set_cons_succ]
  refine tk 3 { dst := some 54, op := .load 30 (.tmp 10), type := 30, pos := "law.go:145", after := #[{ on := 2, ground := .guard }], guard := some (2, false) } _ ?_ (hy := fun wq hSw => kit.rld_L rfl rfl ((fun h => h.2) hSw))
  try simp only [Act.put, List.setIfInBounds_toArray, List.set_cons_zero, List.set_cons_succ]
  refine tk 5 { dst := some 56, op := .load 30 (.tmp 9), type := 30, pos := "law.go:145", after := #[{ on := 2, ground := .guard }], guard := some (2, false) } _ ?_ (hy := fun wq hSw => kit.rld_L rfl rfl ((fun h => h.1) hSw))
  try simp only [Act.put, List.setIfInBounds_toArray, List.set_cons_zero, List.set_cons_succ]
  refine wpAnyH_ready (rs := [4]) (by kernel_rfl) (by simp) ?_
  refine AllReadyH.cons (o := { dst := some 55, op := .call { callee := .value (.func 17), args := #[.tmp 54], argTypes := #[30] }, type := 3, pos := "law.go:145", after := #[{ on := 3, ground := .data }, { on := 2, ground := .chain }, { on := 2, ground := .guard }], guard := some (2, false) }) rfl (fun KQ hKQ => ?_) AllReadyH.nil
  go_simp
  have CC := enti.last_any (cutL L1 u) A6 n6 c6 y9 hn6.out.symm FC.out
  rw [cla.out] at CC
  refine (CC).mono ?_
  rintro e y10 ⟨rfl, hY⟩
  replace kA := kA.below hY kA.lt
  replace kC := kC.below hY kC.lt
  replace R1 := R1.on hY hY.size
  replace R6 := R6.on hY hY.size
  replace HB := HB.trans (hY.mono HB.size)
  clear hY
  clear CC
  go_wp2_with fail
  refine hKQ.out _ _ ?s_4 (fun hHeld4 => ?_)
  case s_4 => exact ⟨kA, kC⟩
  clear hKQ KQ
  try simp only [Act.put, List.setIfInBounds_toArray, List.set_cons_zero, List.set_cons_succ]
  refine wpAnyH_ready (rs := [6]) (by kernel_rfl) (by simp) ?_
  refine AllReadyH.cons (o := { dst := some 57, op := .call { callee := .value (.func 17), args := #[.tmp 56], argTypes := #[30] }, type := 3, pos := "law.go:145", after := #[{ on := 5, ground := .data }, { on := 4, ground := .chain }, { on := 2, ground := .guard }], guard := some (2, false) }) rfl (fun KQ hKQ => ?_) AllReadyH.nil
  go_simp
  have CC := enti.last_any L1 A11 n c11 y10 hll.out F1.out
  rw [hll1.out] at CC
  refine (CC).mono ?_
  rintro e y11 ⟨rfl, hY⟩
  replace kA := kA.below hY kA.lt
  replace kC := kC.below hY kC.lt
  replace R1 := R1.on hY hY.size
  replace R6 := R6.on hY hY.size
  replace HB := HB.trans (hY.mono HB.size)
  clear hY
  clear CC
  go_wp2_with fail
  refine hKQ.out _ _ ?s_6 (fun hHeld6 => ?_)
  case s_6 => exact ⟨kA, kC⟩
  clear hKQ KQ
  try simp only [Act.put, List.setIfInBounds_toArray, List.set_cons_zero, List.set_cons_succ]
  refine tk 7 { dst := some 58, op := .binOp .neq 3 (.tmp 55) (.tmp 57) 3, type := 4, pos := "law.go:145", after := #[{ on := 4, ground := .data }, { on := 6, ground := .data }, { on := 2, ground := .guard }], guard := some (2, false) } _ ?_
  try simp only [Act.put, List.setIfInBounds_toArray, List.set_cons_zero, List.set_cons_succ]
  refine tk 8 { dst := some 59, op := .pick (.tmp 53) (.const (.bool true)) (.tmp 58), type := 4, pos := "law.go:145", after := #[{ on := 2, ground := .data }, { on := 7, ground := .data }], guard := none } _ ?_
  try simp only [Act.put, List.setIfInBounds_toArray, List.set_cons_zero, List.set_cons_succ]
  refine tk 9 { dst := some 60, op := .move (.tmp 59), type := 4, pos := "law.go:145", after := #[{ on := 8, ground := .data }, { on := 6, ground := .chain }], guard := none } _ ?_
  try simp only [Act.put, List.setIfInBounds_toArray, List.set_cons_zero, List.set_cons_succ]
  refine tk 10 { dst := some 61, op := .load 30 (.tmp 10), type := 30, pos := "law.go:145", after := #[{ on := 9, ground := .guard }], guard := some (9, false) } _ ?_ (hy := fun wq hSw => kit.rld_L rfl rfl ((fun h => h.2) hSw))
  try simp only [Act.put, List.setIfInBounds_toArray, List.set_cons_zero, List.set_cons_succ]
  refine tk 12 { dst := some 63, op := .load 30 (.tmp 9), type := 30, pos := "law.go:145", after := #[{ on := 9, ground := .guard }], guard := some (9, false) } _ ?_ (hy := fun wq hSw => kit.rld_L rfl rfl ((fun h => h.1) hSw))
  try simp only [Act.put, List.setIfInBounds_toArray, List.set_cons_zero, List.set_cons_succ]
  refine wpAnyH_ready (rs := [11]) (by kernel_rfl) (by simp) ?_
  refine AllReadyH.cons (o := { dst := some 62, op := .call { callee := .value (.func 22), args := #[.tmp 61], argTypes := #[30] }, type := 27, pos := "law.go:145", after := #[{ on := 10, ground := .data }, { on := 9, ground := .chain }, { on := 9, ground := .guard }], guard := some (9, false) }) rfl (fun KQ hKQ => ?_) AllReadyH.nil
  go_simp
  have CC := enti.conf_any (cutL L1 u) A6 n6 c6 y11 y11.heap.size R6 (Nat.le_refl _) c6h.out FC.out
  rw [cco.out] at CC
  refine (CC).mono ?_
  rintro e y12 ⟨rfl, hY⟩
  replace kA := kA.below hY kA.lt
  replace kC := kC.below hY kC.lt
  replace R1 := R1.on hY hY.size
  replace R6 := R6.on hY hY.size
  replace HB := HB.trans (hY.mono HB.size)
  clear hY
  clear CC
  go_wp2_with fail
  refine hKQ.out _ _ ?s_11 (fun hHeld11 => ?_)
  case s_11 => exact ⟨kA, kC⟩
  clear hKQ KQ
  try simp only [Act.put, List.setIfInBounds_toArray, List.set_cons_zero, List.set_cons_succ]
  refine wpAnyH_ready (rs := [13]) (by kernel_rfl) (by simp) ?_
  refine AllReadyH.cons (o := { dst := some 64, op := .call { callee := .value (.func 22), args := #[.tmp 63], argTypes := #[30] }, type := 27, pos := "law.go:145", after := #[{ on := 12, ground := .data }, { on := 11, ground := .chain }, { on := 9, ground := .guard }], guard := some (9, false) }) rfl (fun KQ hKQ => ?_) AllReadyH.nil
  go_simp
  have CC := enti.conf_any L1 A11 n c11 y12 y12.heap.size R1 (Nat.le_refl _) c11h.out F1.out
  rw [hjj.out] at CC
  refine (CC).mono ?_
  rintro e y13 ⟨rfl, hY⟩
  replace kA := kA.below hY kA.lt
  replace kC := kC.below hY kC.lt
  replace R1 := R1.on hY hY.size
  replace R6 := R6.on hY hY.size
  replace HB := HB.trans (hY.mono HB.size)
  clear hY
  clear CC
  go_wp2_with fail
  refine hKQ.out _ _ ?s_13 (fun hHeld13 => ?_)
  case s_13 => exact ⟨kA, kC⟩
  clear hKQ KQ
  try simp only [Act.put, List.setIfInBounds_toArray, List.set_cons_zero, List.set_cons_succ]
  refine tk 14 { dst := some 65, op := .binOp .neq 27 (.tmp 62) (.tmp 64) 27, type := 4, pos := "law.go:145", after := #[{ on := 11, ground := .data }, { on := 13, ground := .data }, { on := 9, ground := .guard }], guard := some (9, false) } _ ?_
  try simp only [Act.put, List.setIfInBounds_toArray, List.set_cons_zero, List.set_cons_succ]
  refine tk 15 { dst := some 66, op := .pick (.tmp 60) (.const (.bool true)) (.tmp 65), type := 4, pos := "law.go:145", after := #[{ on := 9, ground := .data }, { on := 14, ground := .data }], guard := none } _ ?_
  try simp only [Act.put, List.setIfInBounds_toArray, List.set_cons_zero, List.set_cons_succ]
  refine wpAnyH_done (by kernel_rfl) ?_ _
  go_wp2_with (first | refine kit.ld_L rfl _ rfl rfl kA ?_ | refine kit.ld_L rfl _ rfl rfl kC ?_)
  clear hjq hjg
  have BkA := Lib.hid kA
  clear kA
  have BkC := Lib.hid kC
  clear kC
  have BR1 := Lib.hid R1
  clear R1
  have BR6 := Lib.hid R6
  clear R6
  have BH := Lib.hid HB
  clear HB
  go_loopw [12] (fun iv wr => ∃ k : Nat, u ≤ k ∧ k ≤ n + 1 ∧ iv = .int .i64 (k : Int) ∧ Hid (Below y13.heap.size y13 wr)) (fun iv _ => n + 1 - (intOf iv).toNat)
  case atStart => exact ⟨u, Nat.le_refl _, by omega, rfl, Lib.hid (Below.refl _ _)⟩
  case round =>
    obtain ⟨k, hk, hk1, rfl, HY⟩ := hrel
    by_cases hkn : k ≤ n
    · skip
      have kA := BkA.out.below HY.out BkA.out.lt
      have kC := BkC.out.below HY.out BkC.out.lt
      have R1 := BR1.out.on HY.out HY.out.size
      have R6 := BR6.out.on HY.out HY.out.size
      have HB := HY.out
      have ci : (k : Int) ≤ (n : Int) := by omega
      have w3 : IntKind.i64.wrap ((k : Int) + 1) = ((k + 1 : Nat) : Int) := by rw [kit.wrap_sm (by have := u1.out; have := u2.out; omega) (by have := u1.out; have := u2.out; omega)]; omega
      have hte := Lib.hid (cte.out k hk hkn)
      go_wp2_with (first | refine kit.ld_L rfl _ rfl rfl kA ?_ | refine kit.ld_L rfl _ rfl rfl kC ?_)
      have CC := enti.last_any L1 A11 n c11 wr hll.out F1.out
      rw [hll1.out] at CC
      refine (CC).mono ?_
      rintro e y14 ⟨rfl, hY⟩
      replace kA := kA.below hY kA.lt
      replace kC := kC.below hY kC.lt
      replace R1 := R1.on hY hY.size
      replace R6 := R6.on hY hY.size
      replace HB := HB.trans (hY.mono HB.size)
      clear hY
      clear CC
      go_wp2_with (first | refine kit.ld_L rfl _ rfl rfl kA ?_ | refine kit.ld_L rfl _ rfl rfl kC ?_)
      have CC := enti.term_any L1 A11 n c11 (k : Int) y14 y14.heap.size R1 (Nat.le_refl _) c11h.out F1.out
      obtain ⟨ta, hta⟩ : ∃ z, (termF L1 (k : Int)).1 = z := ⟨_, rfl⟩
      have htb : (termF L1 (k : Int)).2 = true := by rw [termF_is, b1.out, hll1.out]; exact decide_eq_true (by omega)
      rw [hta, htb] at CC
      refine (CC).mono ?_
      rintro e y15 ⟨rfl, hY⟩
      replace kA := kA.below hY kA.lt
      replace kC := kC.below hY kC.lt
      replace R1 := R1.on hY hY.size
      replace R6 := R6.on hY hY.size
      replace HB := HB.trans (hY.mono HB.size)
      clear hY
      clear CC
      go_wp2_with (first | refine kit.ld_L rfl _ rfl rfl kA ?_ | refine kit.ld_L rfl _ rfl rfl kC ?_)
      have CC := enti.term_any (cutL L1 u) A6 n6 c6 (k : Int) y15 y15.heap.size R6 (Nat.le_refl _) c6h.out FC.out
      rw [hte.out, hta, htb] at CC
      clear hta htb
      refine (CC).mono ?_
      rintro e y16 ⟨rfl, hY⟩
      replace kA := kA.below hY kA.lt
      replace kC := kC.below hY kC.lt
      replace R1 := R1.on hY hY.size
      replace R6 := R6.on hY hY.size
      replace HB := HB.trans (hY.mono HB.size)
      clear hY
      clear CC
      go_wp2_with (first | refine kit.ld_L rfl _ rfl rfl kA ?_ | refine kit.ld_L rfl _ rfl rfl kC ?_)
      go_roundw
      case rel => exact ⟨k + 1, by omega, by omega, rfl, Lib.hid HB⟩
      case measure => simp only [intOf]; omega
    · skip
      have kA := BkA.out.below HY.out BkA.out.lt
      have kC := BkC.out.below HY.out BkC.out.lt
      have R1 := BR1.out.on HY.out HY.out.size
      have R6 := BR6.out.on HY.out HY.out.size
      have HB := HY.out
      obtain rfl : k = n + 1 := by omega
      have ci : ¬ (((n + 1 : Nat) : Int) ≤ (n : Int)) := by omega
      go_wp2_with (first | refine kit.ld_L rfl _ rfl rfl kA ?_ | refine kit.ld_L rfl _ rfl rfl kC ?_)
      have CC := enti.last_any L1 A11 n c11 wr hll.out F1.out
      rw [hll1.out] at CC
      refine (CC).mono ?_
      rintro e y14 ⟨rfl, hY⟩
      replace kA := kA.below hY kA.lt
      replace kC := kC.below hY kC.lt
      replace R1 := R1.on hY hY.size
      replace R6 := R6.on hY hY.size
      replace HB := HB.trans (hY.mono HB.size)
      clear hY
      clear CC
      go_wp2_with (first | refine kit.ld_L rfl _ rfl rfl kA ?_ | refine kit.ld_L rfl _ rfl rfl kC ?_)
      replace HB := BH.out.trans (HB.mono BH.out.size)
      clear BH HY BkA BkC BR1 BR6 ci
      obtain ⟨hz1, hz2⟩ := hzn.out
      have CC := enti.term_any L1 A11 n c11 (z : Int) y14 y14.heap.size R1 (Nat.le_refl _) c11h.out F1.out
      obtain ⟨tm, htm⟩ : ∃ z0, (termF L1 (z : Int)).1 = z0 := ⟨_, rfl⟩
      have htm2 := HTm.out z hz2
      rw [htm] at CC htm2
      refine (CC).mono ?_
      rintro e y15 ⟨rfl, hY⟩
      replace kA := kA.below hY kA.lt
      replace kC := kC.below hY kC.lt
      replace R1 := R1.on hY hY.size
      replace R6 := R6.on hY hY.size
      replace HB := HB.trans (hY.mono HB.size)
      clear hY
      clear CC
      go_wp2_with (first | refine kit.ld_L rfl _ rfl rfl kA ?_ | refine kit.ld_L rfl _ rfl rfl kC ?_)
      have RB := HR2.out.on HB HB.size
      refine (made_any A2 n2 c2 l2 (z : Int) tm y15 RB HY2.out (by have := u2.out; omega) (by have := u1.out; omega) (by omega)).mono ?_
      rintro e y16 ⟨A12, c12, rfl, hO2, hYm⟩
      replace kA := kA.below hYm kA.lt
      replace kC := kC.below hYm kC.lt
      replace R1 := R1.on hYm hYm.size
      replace R6 := R6.on hYm hYm.size
      replace HB := HB.trans (hYm.mono HB.size)
      clear hYm
      clear RB
      have R2 := hO2.cap.2.2.2
      have c12h := Lib.hid hO2.cap.2.1
      clear hO2
      have hl2 := Lib.hid (show (madeL (z : Int) tm l2).es.length = n2 by show (madeE _ l2).length = n2; rw [madeE_length, HR2.out.1])
      generalize madeL (z : Int) tm l2 = L2 at *
      have hfl : ∀ w, (Instr.field 30 (lgV L2 (.slice A12 n2 c12)) 3).run Try.prog w = .ok (.slice A12 n2 c12) w := fun w => by kernel_rfl
      go_wp2_with (first | refine kit.ld_L rfl _ rfl rfl kA ?_ | refine kit.ld_L rfl _ rfl rfl kC ?_)
      obtain ⟨M, e1, e2, e3, e4, e5⟩ := HCM.out z L2.es hz1 hz2
      rw [htm, hl2.out] at e1 e2
      rw [hl2.out] at e4 e5
      have FM : Hid (Fit M) := ⟨by omega, by omega, by have := u1.out; have := u2.out; omega⟩
      replace htm2 := Lib.hid htm2
      replace hz1 := Lib.hid hz1
      replace hz2 := Lib.hid hz2
      have CC := enti.merge_any L1 A11 n c11 (z : Int) tm A12 n2 c12 L2.es y16 y16.heap.size R1 (Nat.le_refl _) c11h.out F1.out y16.heap.size R2 (Nat.le_refl _) c12h.out (by have := u2.out; omega)
      rw [e1] at CC
      dsimp only at CC
      refine CC.mono ?_
      rintro e y17 ⟨A7, n7, c7, rfl, hn7, hO7, hY⟩
      replace kA := kA.below hY kA.lt
      replace kC := kC.below hY kC.lt
      replace R1 := R1.on hY hY.size
      replace R6 := R6.on hY hY.size
      replace R2 := R2.on hY hY.size
      replace HB := HB.trans (hY.mono HB.size)
      clear hY
      clear CC
      have R7 := hO7.cap.2.2.2
      have c7h := Lib.hid hO7.cap.2.1
      clear hO7
      replace hn7 := Lib.hid hn7
      have lkA := kA.lt
      have lkC := kC.lt
      have t18 := Below.refl y17.heap.size y17
      go_wp2_with (refine kit.al_L rfl rfl ?_)
      intro x19 zkD e19 s19
      replace kA := kA.below e19 kA.lt
      replace kC := kC.below e19 kC.lt
      have lekD := t18.size
      replace t18 := t18.trans (e19.mono t18.size)
      go_wp2_with (refine kit.st_L rfl _ _ rfl M A7 n7 c7 rfl rfl _ zkD rfl ?_)
      intro y20 kD p20
      replace kA := kA.put p20 (Nat.ne_of_lt (Nat.lt_of_lt_of_le lkA lekD))
      replace kC := kC.put p20 (Nat.ne_of_lt (Nat.lt_of_lt_of_le lkC lekD))
      replace t18 := p20.below _ _ t18 lekD
      replace R1 := R1.on t18 t18.size
      replace R6 := R6.on t18 t18.size
      replace R2 := R2.on t18 t18.size
      replace R7 := R7.on t18 t18.size
      replace HB := HB.trans (t18.mono HB.size)
      clear lkA lkC s19 e19 lekD t18
      generalize y17.heap.size = gkD at *
      try clear zkD
      go_wp2_with (first | refine kit.ld_L rfl _ rfl rfl kA ?_ | refine kit.ld_L rfl _ rfl rfl kC ?_ | refine kit.ld_L rfl _ rfl rfl kD ?_)
      have CC := enti.merge_any (cutL L1 u) A6 n6 c6 (z : Int) tm A12 n2 c12 L2.es y20 y20.heap.size R6 (Nat.le_refl _) c6h.out FC.out y20.heap.size R2 (Nat.le_refl _) c12h.out (by have := u2.out; omega)
      rw [e2] at CC
      dsimp only at CC
      refine CC.mono ?_
      rintro e y21 ⟨A8, n8, c8, rfl, hn8, hO8, hY⟩
      replace kA := kA.below hY kA.lt
      replace kC := kC.below hY kC.lt
      replace kD := kD.below hY kD.lt
      replace R1 := R1.on hY hY.size
      replace R6 := R6.on hY hY.size
      replace R2 := R2.on hY hY.size
      replace R7 := R7.on hY hY.size
      replace HB := HB.trans (hY.mono HB.size)
      clear hY
      clear CC
      have R8 := hO8.cap.2.2.2
      have c8h := Lib.hid hO8.cap.2.1
      clear hO8
      replace hn8 := Lib.hid hn8
      have lkA := kA.lt
      have lkC := kC.lt
      have lkD := kD.lt
      have t22 := Below.refl y21.heap.size y21
      go_wp2_with (refine kit.al_L rfl rfl ?_)
      intro x23 zkE e23 s23
      replace kA := kA.below e23 kA.lt
      replace kC := kC.below e23 kC.lt
      replace kD := kD.below e23 kD.lt
      have lekE := t22.size
      replace t22 := t22.trans (e23.mono t22.size)
      go_wp2_with (refine kit.st_L rfl _ _ rfl (cutL M u) A8 n8 c8 rfl rfl _ zkE rfl ?_)
      intro y24 kE p24
      replace kA := kA.put p24 (Nat.ne_of_lt (Nat.lt_of_lt_of_le lkA lekE))
      replace kC := kC.put p24 (Nat.ne_of_lt (Nat.lt_of_lt_of_le lkC lekE))
      replace kD := kD.put p24 (Nat.ne_of_lt (Nat.lt_of_lt_of_le lkD lekE))
      replace t22 := p24.below _ _ t22 lekE
      replace R1 := R1.on t22 t22.size
      replace R6 := R6.on t22 t22.size
      replace R2 := R2.on t22 t22.size
      replace R7 := R7.on t22 t22.size
      replace R8 := R8.on t22 t22.size
      replace HB := HB.trans (t22.mono HB.size)
      clear lkA lkC lkD s23 e23 lekE t22
      generalize y21.heap.size = gkE at *
      try clear zkE
      go_wp2_with (first | refine kit.ld_L rfl _ rfl rfl kA ?_ | refine kit.ld_L rfl _ rfl rfl kC ?_ | refine kit.ld_L rfl _ rfl rfl kD ?_ | refine kit.ld_L rfl _ rfl rfl kE ?_)
      have CC := enti.compact_any M A7 n7 c7 (u : Int) y24 y24.heap.size R7 (Nat.le_refl _) c7h.out FM.out
      rw [compact_cut e3 (by have := hz1.out; omega)] at CC
      dsimp only at CC
      refine CC.mono ?_
      rintro e y25 ⟨A9, n9, c9, rfl, hn9, hO9, hY⟩
      replace kA := kA.below hY kA.lt
      replace kC := kC.below hY kC.lt
      replace kD := kD.below hY kD.lt
      replace kE := kE.below hY kE.lt
      replace R1 := R1.on hY hY.size
      replace R6 := R6.on hY hY.size
      replace R2 := R2.on hY hY.size
      replace R7 := R7.on hY hY.size
      replace R8 := R8.on hY hY.size
      replace HB := HB.trans (hY.mono HB.size)
      clear hY
      clear CC
      have R9 := hO9.cap.2.2.2
      have c9h := Lib.hid hO9.cap.2.1
      clear hO9
      replace hn9 := Lib.hid hn9
      have lkA := kA.lt
      have lkC := kC.lt
      have lkD := kD.lt
      have lkE := kE.lt
      have t26 := Below.refl y25.heap.size y25
      go_wp2_with (refine kit.al_L rfl rfl ?_)
      intro x27 zkF e27 s27
      replace kA := kA.below e27 kA.lt
      replace kC := kC.below e27 kC.lt
      replace kD := kD.below e27 kD.lt
      replace kE := kE.below e27 kE.lt
      have lekF := t26.size
      replace t26 := t26.trans (e27.mono t26.size)
      go_wp2_with (refine kit.st_L rfl _ _ rfl (cutL M u) A9 n9 c9 rfl rfl _ zkF rfl ?_)
      intro y28 kF p28
      replace kA := kA.put p28 (Nat.ne_of_lt (Nat.lt_of_lt_of_le lkA lekF))
      replace kC := kC.put p28 (Nat.ne_of_lt (Nat.lt_of_lt_of_le lkC lekF))
      replace kD := kD.put p28 (Nat.ne_of_lt (Nat.lt_of_lt_of_le lkD lekF))
      replace kE := kE.put p28 (Nat.ne_of_lt (Nat.lt_of_lt_of_le lkE lekF))
      replace t26 := p28.below _ _ t26 lekF
      replace R1 := R1.on t26 t26.size
      replace R6 := R6.on t26 t26.size
      replace R2 := R2.on t26 t26.size
      replace R7 := R7.on t26 t26.size
      replace R8 := R8.on t26 t26.size
      replace R9 := R9.on t26 t26.size
      replace HB := HB.trans (t26.mono HB.size)
      clear lkA lkC lkD lkE s27 e27 lekF t26
      generalize y25.heap.size = gkF at *
      try clear zkF
      go_wp2_with (first | refine kit.ld_L rfl _ rfl rfl kA ?_ | refine kit.ld_L rfl _ rfl rfl kC ?_ | refine kit.ld_L rfl _ rfl rfl kD ?_ | refine kit.ld_L rfl _ rfl rfl kE ?_ | refine kit.ld_L rfl _ rfl rfl kF ?_)
      have hn9b : n9 ≤ 1099511627776 := by have := hn9.out; have h : (cutL M u).es.length = M.es.length - u := List.length_drop; have := FM.out.2.2; omega
      have CC := ref12.rsame_any (cutL M u) (cutL M u) A9 n9 c9 A8 n8 c8 y28 y28.heap.size y28.heap.size R9 (Nat.le_refl _) R8 (Nat.le_refl _) hn9b
      rw [eqL_self] at CC
      clear hn9b
      refine (CC).mono ?_
      rintro e y29 ⟨rfl, hY⟩
      replace kA := kA.below hY kA.lt
      replace kC := kC.below hY kC.lt
      replace kD := kD.below hY kD.lt
      replace kE := kE.below hY kE.lt
      replace kF := kF.below hY kF.lt
      replace R1 := R1.on hY hY.size
      replace R6 := R6.on hY hY.size
      replace R2 := R2.on hY hY.size
      replace R7 := R7.on hY hY.size
      replace R8 := R8.on hY hY.size
      replace R9 := R9.on hY hY.size
      replace HB := HB.trans (hY.mono HB.size)
      clear hY
      clear CC
      go_wp2_with (first | refine kit.ld_L rfl _ rfl rfl kA ?_ | refine kit.ld_L rfl _ rfl rfl kC ?_ | refine kit.ld_L rfl _ rfl rfl kD ?_ | refine kit.ld_L rfl _ rfl rfl kE ?_ | refine kit.ld_L rfl _ rfl rfl kF ?_)
      go_ret
      exact ⟨rfl, HB⟩
end Go.Proofs.Yteadkgjikaikjaa.law12
