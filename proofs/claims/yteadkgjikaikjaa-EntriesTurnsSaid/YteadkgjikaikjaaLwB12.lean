/- What the statements' begun come to. Conditions: those that each theorem names. -/
import Derived.Test.YteadkgjikaikjaaEntK
import Derived.Test.YteadkgjikaikjaaEntL
import Derived.Test.YteadkgjikaikjaaEntG
import Derived.Test.YteadkgjikaikjaaKitLg
import Derived.Test.YteadkgjikaikjaaTk
import Derived.Deep.RegionHeld3
import Derived.Deep.Cut
import Derived.Lib.Hide
namespace Go.Proofs.Yteadkgjikaikjaa.law12
open Go Go.RowKit Go.Proofs.Yteadkgjikaikjaa.kit Go.Proofs.Yteadkgjikaikjaa.nums Go.Proofs.Yteadkgjikaikjaa.cf Go.Proofs.Yteadkgjikaikjaa.lg
set_option linter.unusedVariables false
set_option maxHeartbeats 2000000 in
set_option maxRecDepth 10000 in
theorem begun_any (w : World) : Calls Try.prog 9 #[] w fun e w' => e = .returned (.bool true) ∧ Below w.heap.size w w' := by
  have kl : Blk 37 (w.alloc (.cells #[.int .i64 1, .int .i64 0, .string ⟨#[]⟩, .int .u16 0, .int .u16 0, .int .u16 0, .int .i64 0, .int .i64 0, .int .u16 0, .int .u16 0, .int .u16 0, .int .i64 0, .int .i64 0, .bool false, .int .i64 2, .int .i64 0, .string ⟨#[]⟩, .int .u16 0, .int .u16 0, .int .u16 0, .int .i64 0, .int .i64 0, .int .u16 0, .int .u16 0, .int .u16 0, .int .i64 0, .int .i64 0, .bool false] 37)) w.heap.size [.int .i64 1, .int .i64 0, .string ⟨#[]⟩, .int .u16 0, .int .u16 0, .int .u16 0, .int .i64 0, .int .i64 0, .int .u16 0, .int .u16 0, .int .u16 0, .int .i64 0, .int .i64 0, .bool false, .int .i64 2, .int .i64 0, .string ⟨#[]⟩, .int .u16 0, .int .u16 0, .int .u16 0, .int .i64 0, .int .i64 0, .int .u16 0, .int .u16 0, .int .u16 0, .int .i64 0, .int .i64 0, .bool false] := heap_alloc_new w _
  have p1 := (Below.refl w.heap.size w).alloc (Nat.le_refl _) (.cells #[.int .i64 1, .int .i64 0, .string ⟨#[]⟩, .int .u16 0, .int .u16 0, .int .u16 0, .int .i64 0, .int .i64 0, .int .u16 0, .int .u16 0, .int .u16 0, .int .i64 0, .int .i64 0, .bool false, .int .i64 2, .int .i64 0, .string ⟨#[]⟩, .int .u16 0, .int .u16 0, .int .u16 0, .int .i64 0, .int .i64 0, .int .u16 0, .int .u16 0, .int .u16 0, .int .i64 0, .int .i64 0, .bool false] 37)
  have RL : RdE (w.alloc (.cells #[.int .i64 1, .int .i64 0, .string ⟨#[]⟩, .int .u16 0, .int .u16 0, .int .u16 0, .int .i64 0, .int .i64 0, .int .u16 0, .int .u16 0, .int .u16 0, .int .i64 0, .int .i64 0, .bool false, .int .i64 2, .int .i64 0, .string ⟨#[]⟩, .int .u16 0, .int .u16 0, .int .u16 0, .int .i64 0, .int .i64 0, .int .u16 0, .int .u16 0, .int .u16 0, .int .i64 0, .int .i64 0, .bool false] 37)) (w.alloc (.cells #[.int .i64 1, .int .i64 0, .string ⟨#[]⟩, .int .u16 0, .int .u16 0, .int .u16 0, .int .i64 0, .int .i64 0, .int .u16 0, .int .u16 0, .int .u16 0, .int .i64 0, .int .i64 0, .bool false, .int .i64 2, .int .i64 0, .string ⟨#[]⟩, .int .u16 0, .int .u16 0, .int .u16 0, .int .i64 0, .int .i64 0, .int .u16 0, .int .u16 0, .int .u16 0, .int .i64 0, .int .i64 0, .bool false] 37)).heap.size (some ⟨w.heap.size, 0, none⟩) 2 [⟨1, 0, ⟨#[]⟩, zeroJ⟩, ⟨2, 0, ⟨#[]⟩, zeroJ⟩] := ⟨rfl, fun _ => ⟨w.heap.size, 0, rfl, kl.lt, fun i y hy => by
    rcases i with _ | _ | i
    · obtain rfl := Option.some.inj hy
      intro q u hu
      have hq : q < 14 := (List.getElem?_eq_some_iff.1 hu).1
      rw [kl.cell, ← hu]
      exact (show (enC ⟨1, 0, ⟨#[]⟩, zeroJ⟩ ++ enC ⟨2, 0, ⟨#[]⟩, zeroJ⟩)[0 + 0 * 14 + q]? = _ by rw [Nat.zero_mul, Nat.zero_add, List.getElem?_append_left hq])
    · obtain rfl := Option.some.inj hy
      intro q u hu
      rw [kl.cell, ← hu]
      exact (show (enC ⟨1, 0, ⟨#[]⟩, zeroJ⟩ ++ enC ⟨2, 0, ⟨#[]⟩, zeroJ⟩)[0 + 1 * 14 + q]? = _ by rw [List.getElem?_append_right (by show 14 ≤ _; omega)]; congr 1; show 0 + 1 * 14 + q - 14 = q; omega)
    · simp at hy⟩⟩
  have P1 := Lib.hid p1
  have RL := Lib.hid RL
  clear kl p1
  go_enter Try.func9, Try.ntmps9
  go_upto_region 1 with (fail)
  go_wp2_with fail
  generalize (w.alloc (.cells #[.int .i64 1, .int .i64 0, .string ⟨#[]⟩, .int .u16 0, .int .u16 0, .int .u16 0, .int .i64 0, .int .i64 0, .int .u16 0, .int .u16 0, .int .u16 0, .int .i64 0, .int .i64 0, .bool false, .int .i64 2, .int .i64 0, .string ⟨#[]⟩, .int .u16 0, .int .u16 0, .int .u16 0, .int .i64 0, .int .i64 0, .int .u16 0, .int .u16 0, .int .u16 0, .int .i64 0, .int .i64 0, .bool false] 37)) = w1 at *
  have C := enti.merge_any zL none 0 0 0 0 (some ⟨w.heap.size, 0, none⟩) 2 2 [⟨1, 0, ⟨#[]⟩, zeroJ⟩, ⟨2, 0, ⟨#[]⟩, zeroJ⟩] w1 w1.heap.size (RdE.nil _ _ _) (Nat.le_refl _) (Nat.le_refl _) ⟨by decide, by decide, by decide⟩ w1.heap.size RL.out (Nat.le_refl _) (Nat.le_refl _) (by decide)
  rw [show mergeF zL 0 0 [⟨1, 0, ⟨#[]⟩, zeroJ⟩, ⟨2, 0, ⟨#[]⟩, zeroJ⟩] = (⟨0, 0, zeroJ, [⟨1, 0, ⟨#[]⟩, zeroJ⟩, ⟨2, 0, ⟨#[]⟩, zeroJ⟩]⟩, 2, true) from rfl] at C
  unfold lgV zL at C
  dsimp only at C
  simp only [j0_z, j1_z, j2_z, j3_z, j4_z, j5_z, j6_z, j7_z, j8_z, j9_z, j10_z] at C
  refine C.mono ?_
  clear C
  rintro e y1 ⟨A', n', c', rfl, hn', hO, hY1⟩
  obtain rfl : n' = 2 := hn'
  have HO := Lib.hid hO
  clear hO
  go_upto_region 2 with (fail)
  have p2 := P1.out.trans (hY1.mono P1.out.size)
  have kM : Blk 30 (y1.alloc (.cells #[.int .i64 0, .int .i64 0, .int .u16 0, .int .u16 0, .int .u16 0, .int .i64 0, .int .i64 0, .int .u16 0, .int .u16 0, .int .u16 0, .int .i64 0, .int .i64 0, .bool false, .slice A' 2 c'] 30)) y1.heap.size [.int .i64 0, .int .i64 0, .int .u16 0, .int .u16 0, .int .u16 0, .int .i64 0, .int .i64 0, .int .u16 0, .int .u16 0, .int .u16 0, .int .i64 0, .int .i64 0, .bool false, .slice A' 2 c'] := heap_alloc_new y1 (.cells #[.int .i64 0, .int .i64 0, .int .u16 0, .int .u16 0, .int .u16 0, .int .i64 0, .int .i64 0, .int .u16 0, .int .u16 0, .int .u16 0, .int .i64 0, .int .i64 0, .bool false, .slice A' 2 c'] 30)
  have p3 := Below.alloc p2 (Below.size p2) (.cells #[.int .i64 0, .int .i64 0, .int .u16 0, .int .u16 0, .int .u16 0, .int .i64 0, .int .i64 0, .int .u16 0, .int .u16 0, .int .u16 0, .int .i64 0, .int .i64 0, .bool false, .slice A' 2 c'] 30)
  have hb2 := Lib.hid ((Below.refl y1.heap.size y1).alloc (Nat.le_refl _) (.cells #[.int .i64 0, .int .i64 0, .int .u16 0, .int .u16 0, .int .u16 0, .int .i64 0, .int .i64 0, .int .u16 0, .int .u16 0, .int .u16 0, .int .i64 0, .int .i64 0, .bool false, .slice A' 2 c'] 30))
  generalize (y1.alloc (.cells #[.int .i64 0, .int .i64 0, .int .u16 0, .int .u16 0, .int .u16 0, .int .i64 0, .int .i64 0, .int .u16 0, .int .u16 0, .int .u16 0, .int .i64 0, .int .i64 0, .bool false, .slice A' 2 c'] 30)) = w2 at *
  have HO2 := Lib.hid (HO.out.below hb2.out)
  clear hb2 HO
  have HM : Hid (∀ wq, Below w2.heap.size w2 wq → (wq.cell? ⟨y1.heap.size, 0, none⟩ = some (.int .i64 0) ∧ wq.cell? ⟨y1.heap.size, 1, none⟩ = some (.int .i64 0) ∧ wq.cell? ⟨y1.heap.size, 2, none⟩ = some (.int .u16 0) ∧ wq.cell? ⟨y1.heap.size, 3, none⟩ = some (.int .u16 0) ∧ wq.cell? ⟨y1.heap.size, 4, none⟩ = some (.int .u16 0) ∧ wq.cell? ⟨y1.heap.size, 5, none⟩ = some (.int .i64 0) ∧ wq.cell? ⟨y1.heap.size, 6, none⟩ = some (.int .i64 0) ∧ wq.cell? ⟨y1.heap.size, 7, none⟩ = some (.int .u16 0) ∧ wq.cell? ⟨y1.heap.size, 8, none⟩ = some (.int .u16 0) ∧ wq.cell? ⟨y1.heap.size, 9, none⟩ = some (.int .u16 0) ∧ wq.cell? ⟨y1.heap.size, 10, none⟩ = some (.int .i64 0) ∧ wq.cell? ⟨y1.heap.size, 11, none⟩ = some (.int .i64 0) ∧ wq.cell? ⟨y1.heap.size, 12, none⟩ = some (.bool false) ∧ wq.cell? ⟨y1.heap.size, 13, none⟩ = some (.slice A' 2 c'))) := fun wq hq => blk14 (kM.below hq kM.lt)
  have b0 := Below.refl w2.heap.size w2
  have r0 := HM.out _ b0
  go_wp2_with fail
  have C := enti.compact_any ⟨0, 0, zeroJ, [⟨1, 0, ⟨#[]⟩, zeroJ⟩, ⟨2, 0, ⟨#[]⟩, zeroJ⟩]⟩ A' 2 c' 1 w2 w2.heap.size HO2.out.cap.2.2.2 (Nat.le_refl _) HO2.out.cap.2.1 ⟨by decide, by decide, by decide⟩
  rw [show compactF ⟨0, 0, zeroJ, [⟨1, 0, ⟨#[]⟩, zeroJ⟩, ⟨2, 0, ⟨#[]⟩, zeroJ⟩]⟩ 1 = (⟨1, 1, zeroJ, [⟨2, 0, ⟨#[]⟩, zeroJ⟩]⟩, 0) from rfl] at C
  unfold lgV at C
  dsimp only at C
  simp only [j0_z, j1_z, j2_z, j3_z, j4_z, j5_z, j6_z, j7_z, j8_z, j9_z, j10_z] at C
  refine C.mono ?_
  clear C
  rintro e y2 ⟨A5, n5, c5, rfl, hn5, hO5, hY2⟩
  obtain rfl : n5 = 1 := hn5
  have b1 := b0.trans (hY2.mono b0.size)
  clear r0 hO5
  go_upto_region 3 with (fail)
  have kC : Blk 30 (y2.alloc (.cells #[.int .i64 1, .int .i64 1, .int .u16 0, .int .u16 0, .int .u16 0, .int .i64 0, .int .i64 0, .int .u16 0, .int .u16 0, .int .u16 0, .int .i64 0, .int .i64 0, .bool false, .slice A5 1 c5] 30)) y2.heap.size [.int .i64 1, .int .i64 1, .int .u16 0, .int .u16 0, .int .u16 0, .int .i64 0, .int .i64 0, .int .u16 0, .int .u16 0, .int .u16 0, .int .i64 0, .int .i64 0, .bool false, .slice A5 1 c5] := heap_alloc_new y2 (.cells #[.int .i64 1, .int .i64 1, .int .u16 0, .int .u16 0, .int .u16 0, .int .i64 0, .int .i64 0, .int .u16 0, .int .u16 0, .int .u16 0, .int .i64 0, .int .i64 0, .bool false, .slice A5 1 c5] 30)
  have b2 := Below.alloc b1 (Below.size b1) (.cells #[.int .i64 1, .int .i64 1, .int .u16 0, .int .u16 0, .int .u16 0, .int .i64 0, .int .i64 0, .int .u16 0, .int .u16 0, .int .u16 0, .int .i64 0, .int .i64 0, .bool false, .slice A5 1 c5] 30)
  generalize (y2.alloc (.cells #[.int .i64 1, .int .i64 1, .int .u16 0, .int .u16 0, .int .u16 0, .int .i64 0, .int .i64 0, .int .u16 0, .int .u16 0, .int .u16 0, .int .i64 0, .int .i64 0, .bool false, .slice A5 1 c5] 30)) = w3 at *
  have HN : Hid (∀ wq, Below w3.heap.size w3 wq → ((wq.cell? ⟨y1.heap.size, 0, none⟩ = some (.int .i64 0) ∧ wq.cell? ⟨y1.heap.size, 1, none⟩ = some (.int .i64 0) ∧ wq.cell? ⟨y1.heap.size, 2, none⟩ = some (.int .u16 0) ∧ wq.cell? ⟨y1.heap.size, 3, none⟩ = some (.int .u16 0) ∧ wq.cell? ⟨y1.heap.size, 4, none⟩ = some (.int .u16 0) ∧ wq.cell? ⟨y1.heap.size, 5, none⟩ = some (.int .i64 0) ∧ wq.cell? ⟨y1.heap.size, 6, none⟩ = some (.int .i64 0) ∧ wq.cell? ⟨y1.heap.size, 7, none⟩ = some (.int .u16 0) ∧ wq.cell? ⟨y1.heap.size, 8, none⟩ = some (.int .u16 0) ∧ wq.cell? ⟨y1.heap.size, 9, none⟩ = some (.int .u16 0) ∧ wq.cell? ⟨y1.heap.size, 10, none⟩ = some (.int .i64 0) ∧ wq.cell? ⟨y1.heap.size, 11, none⟩ = some (.int .i64 0) ∧ wq.cell? ⟨y1.heap.size, 12, none⟩ = some (.bool false) ∧ wq.cell? ⟨y1.heap.size, 13, none⟩ = some (.slice A' 2 c'))) ∧ (wq.cell? ⟨y2.heap.size, 0, none⟩ = some (.int .i64 1) ∧ wq.cell? ⟨y2.heap.size, 1, none⟩ = some (.int .i64 1) ∧ wq.cell? ⟨y2.heap.size, 2, none⟩ = some (.int .u16 0) ∧ wq.cell? ⟨y2.heap.size, 3, none⟩ = some (.int .u16 0) ∧ wq.cell? ⟨y2.heap.size, 4, none⟩ = some (.int .u16 0) ∧ wq.cell? ⟨y2.heap.size, 5, none⟩ = some (.int .i64 0) ∧ wq.cell? ⟨y2.heap.size, 6, none⟩ = some (.int .i64 0) ∧ wq.cell? ⟨y2.heap.size, 7, none⟩ = some (.int .u16 0) ∧ wq.cell? ⟨y2.heap.size, 8, none⟩ = some (.int .u16 0) ∧ wq.cell? ⟨y2.heap.size, 9, none⟩ = some (.int .u16 0) ∧ wq.cell? ⟨y2.heap.size, 10, none⟩ = some (.int .i64 0) ∧ wq.cell? ⟨y2.heap.size, 11, none⟩ = some (.int .i64 0) ∧ wq.cell? ⟨y2.heap.size, 12, none⟩ = some (.bool false) ∧ wq.cell? ⟨y2.heap.size, 13, none⟩ = some (.slice A5 1 c5))) := fun wq hq => ⟨HM.out _ (b2.trans (hq.mono b2.size)), blk14 (kC.below hq kC.lt)⟩
  have d0 := Below.refl w3.heap.size w3
  have r0 := HN.out _ d0
  have R3 := Lib.hid (HO2.out.cap.2.2.2.on b2 b2.size)
  have CL := Lib.hid (fun w' (hb : Below w3.heap.size w3 w') => enti.last_any ⟨0, 0, zeroJ, [⟨1, 0, ⟨#[]⟩, zeroJ⟩, ⟨2, 0, ⟨#[]⟩, zeroJ⟩]⟩ A' 2 c' w' rfl ⟨by decide, by decide, by decide⟩)
  have CN := Lib.hid (fun w' (hb : Below w3.heap.size w3 w') => enti.newer_any ⟨0, 0, zeroJ, [⟨1, 0, ⟨#[]⟩, zeroJ⟩, ⟨2, 0, ⟨#[]⟩, zeroJ⟩]⟩ A' 2 c' 1 3 w' w3.heap.size (R3.out.below hb) hb.size HO2.out.cap.2.1 ⟨by decide, by decide, by decide⟩)
  rw [show lastF ⟨0, 0, zeroJ, [⟨1, 0, ⟨#[]⟩, zeroJ⟩, ⟨2, 0, ⟨#[]⟩, zeroJ⟩]⟩ = 2 from rfl] at CL
  rw [show newerF ⟨0, 0, zeroJ, [⟨1, 0, ⟨#[]⟩, zeroJ⟩, ⟨2, 0, ⟨#[]⟩, zeroJ⟩]⟩ 1 3 = true from rfl] at CN
  unfold lgV at CL CN
  dsimp only at CL CN
  simp only [j0_z, j1_z, j2_z, j3_z, j4_z, j5_z, j6_z, j7_z, j8_z, j9_z, j10_z] at CL CN
  go_wp2_with fail
  refine (CL.out _ d0).mono ?_
  rintro e y3 ⟨rfl, hY3⟩
  have d1 := d0.trans (hY3.mono d0.size)
  clear r0
  have r1 := HN.out _ d1
  go_wp2_with fail
  refine (CN.out _ d1).mono ?_
  rintro e y4 ⟨rfl, hY4⟩
  have d2 := d1.trans (hY4.mono d1.size)
  clear r1
  go_wp2_with fail
  go_ret
  exact ⟨by first | rfl | simp, (p3.trans (b2.mono p3.size)).trans (d2.mono (Nat.le_trans p3.size b2.size))⟩
end Go.Proofs.Yteadkgjikaikjaa.law12
