/- conf does something: begun of layer 10 answers true. No condition. -/
import Derived.Test.YtdpfpcdoocampaaConfJ
import Derived.Test.YtdpfpcdoocampaaConfK
namespace Go.Proofs.Ytdpfpcdoocampaa.law10
open Go Go.RowKit Go.Proofs.Ytdpfpcdoocampaa.kit Go.Proofs.Ytdpfpcdoocampaa.nums Go.Proofs.Ytdpfpcdoocampaa.se Go.Proofs.Ytdpfpcdoocampaa.cf
set_option linter.unusedVariables false

instance (z : Int) : Decidable (In64 z) := by unfold In64; infer_instance
instance (c : CfL) : Decidable c.ok := by unfold CfL.ok; infer_instance
instance (j : JtL) : Decidable j.ok := by unfold JtL.ok; infer_instance
theorem u16_wf {s : Int} (h : (Lit.int .u16 s).wf = true) : ∃ n : Nat, s = (n : Int) ∧ n < 65536 := by
  simp [Lit.wf, IntKind.min, IntKind.max, IntKind.signed, IntKind.bits] at h
  exact ⟨s.toNat, by omega, by omega⟩
theorem i64_wf {n : Int} (h : (Lit.int .i64 n).wf = true) : -9223372036854775808 ≤ n ∧ n ≤ 9223372036854775807 := by
  simpa [Lit.wf, IntKind.min, IntKind.max, IntKind.signed, IntKind.bits] using h
set_option maxRecDepth 10000 in
set_option maxHeartbeats 2000000 in
theorem begun_any (w : World) : Calls Try.prog 10 #[] w fun e w' => e = .returned (.bool true) ∧ Below w.heap.size w w' := by
  have C0 : Hid (∀ w, Calls Try.prog 27 #[.agg #[.int .u16 6, .int .u16 8, .int .u16 0, .int .i64 2, .int .i64 2, .int .u16 0, .int .u16 0, .int .u16 0, .int .i64 0, .int .i64 0, .bool false], .agg #[.int .u16 6, .int .u16 8, .int .u16 0, .int .i64 3, .int .i64 1]] w fun e w' => e = .returned (.tuple #[.agg #[.int .u16 6, .int .u16 8, .int .u16 0, .int .i64 2, .int .i64 2, .int .u16 6, .int .u16 8, .int .u16 0, .int .i64 3, .int .i64 1, .bool true], .int .i64 0]) ∧ Below w.heap.size w w') := fun w => confi.change_any ⟨⟨6, 8, 0, 2, 2⟩, zeroC, false⟩ ⟨6, 8, 0, 3, 1⟩ w (by decide) (by decide)
  have C1 : Hid (∀ w, Calls Try.prog 11 #[.agg #[.int .u16 6, .int .u16 8, .int .u16 0, .int .i64 2, .int .i64 2]] w fun e w' => e = .returned (.bool true) ∧ Below w.heap.size w w') := fun w => confi.may_any ⟨6, 8, 0, 2, 2⟩ w (by decide)
  have C2 : Hid (∀ w, Calls Try.prog 23 #[.agg #[.int .u16 6, .int .u16 8, .int .u16 0, .int .i64 2, .int .i64 2, .int .u16 0, .int .u16 0, .int .u16 0, .int .i64 0, .int .i64 0, .bool false], .int .u16 10] w fun e w' => e = .returned (.bool true) ∧ Below w.heap.size w w') := fun w => confi.elects_any ⟨⟨6, 8, 0, 2, 2⟩, zeroC, false⟩ 10 w (by decide) (by decide)
  have C3 : Hid (∀ w, Calls Try.prog 23 #[.agg #[.int .u16 6, .int .u16 8, .int .u16 0, .int .i64 2, .int .i64 2, .int .u16 6, .int .u16 8, .int .u16 0, .int .i64 3, .int .i64 1, .bool true], .int .u16 10] w fun e w' => e = .returned (.bool false) ∧ Below w.heap.size w w') := fun w => confi.elects_any ⟨⟨6, 8, 0, 2, 2⟩, ⟨6, 8, 0, 3, 1⟩, true⟩ 10 w (by decide) (by decide)
  have C4 : Hid (∀ w, Calls Try.prog 25 #[.agg #[.int .u16 6, .int .u16 8, .int .u16 0, .int .i64 2, .int .i64 2, .int .u16 6, .int .u16 8, .int .u16 0, .int .i64 3, .int .i64 1, .bool true], .int .u16 10] w fun e w' => e = .returned (.bool true) ∧ Below w.heap.size w w') := fun w => confi.commits_any ⟨⟨6, 8, 0, 2, 2⟩, ⟨6, 8, 0, 3, 1⟩, true⟩ 10 w (by decide) (by decide)
  have s0 : Blk 25 (w.alloc (.cells #[.int .u16 6, .int .u16 8, .int .u16 0, .int .i64 2, .int .i64 2] 25)) w.heap.size [.int .u16 6, .int .u16 8, .int .u16 0, .int .i64 2, .int .i64 2] := heap_alloc_new w _
  have b0 := (Below.refl w.heap.size w).alloc (Nat.le_refl _) (.cells #[.int .u16 6, .int .u16 8, .int .u16 0, .int .i64 2, .int .i64 2] 25)
  go_enter Try.func10, Try.ntmps10
  go_upto_region 2 with (fail)
  generalize (w.alloc (.cells #[.int .u16 6, .int .u16 8, .int .u16 0, .int .i64 2, .int .i64 2] 25)) = w1 at *
  have r0 := blk5 s0
  go_wp2_with fail
  refine (C0.out _).mono ?_
  rintro e y1 ⟨rfl, hY1⟩
  have s1 := s0.below hY1 s0.lt
  have b1 := b0.trans (hY1.mono b0.size)
  have s2 : Blk 27 (y1.alloc (.cells #[.int .u16 6, .int .u16 8, .int .u16 0, .int .i64 2, .int .i64 2, .int .u16 6, .int .u16 8, .int .u16 0, .int .i64 3, .int .i64 1, .bool true] 27)) y1.heap.size [.int .u16 6, .int .u16 8, .int .u16 0, .int .i64 2, .int .i64 2, .int .u16 6, .int .u16 8, .int .u16 0, .int .i64 3, .int .i64 1, .bool true] := heap_alloc_new y1 _
  have b3 := b1.alloc b1.size (.cells #[.int .u16 6, .int .u16 8, .int .u16 0, .int .i64 2, .int .i64 2, .int .u16 6, .int .u16 8, .int .u16 0, .int .i64 3, .int .i64 1, .bool true] 27)
  have s4 := s1.alloc (.cells #[.int .u16 6, .int .u16 8, .int .u16 0, .int .i64 2, .int .i64 2, .int .u16 6, .int .u16 8, .int .u16 0, .int .i64 3, .int .i64 1, .bool true] 27)
  clear s1 s0 hY1 b0 b1
  go_upto_region 3 with (fail)
  generalize (y1.alloc (.cells #[.int .u16 6, .int .u16 8, .int .u16 0, .int .i64 2, .int .i64 2, .int .u16 6, .int .u16 8, .int .u16 0, .int .i64 3, .int .i64 1, .bool true] 27)) = w3 at *
  have HS : Hid (∀ wq, Below w3.heap.size w3 wq → (wq.cell? ⟨w.heap.size, 0, none⟩ = some (.int .u16 6) ∧ wq.cell? ⟨w.heap.size, 1, none⟩ = some (.int .u16 8) ∧ wq.cell? ⟨w.heap.size, 2, none⟩ = some (.int .u16 0) ∧ wq.cell? ⟨w.heap.size, 3, none⟩ = some (.int .i64 2) ∧ wq.cell? ⟨w.heap.size, 4, none⟩ = some (.int .i64 2)) ∧ (wq.cell? ⟨y1.heap.size, 0, none⟩ = some (.int .u16 6) ∧ wq.cell? ⟨y1.heap.size, 1, none⟩ = some (.int .u16 8) ∧ wq.cell? ⟨y1.heap.size, 2, none⟩ = some (.int .u16 0) ∧ wq.cell? ⟨y1.heap.size, 3, none⟩ = some (.int .i64 2) ∧ wq.cell? ⟨y1.heap.size, 4, none⟩ = some (.int .i64 2) ∧ wq.cell? ⟨y1.heap.size, 5, none⟩ = some (.int .u16 6) ∧ wq.cell? ⟨y1.heap.size, 6, none⟩ = some (.int .u16 8) ∧ wq.cell? ⟨y1.heap.size, 7, none⟩ = some (.int .u16 0) ∧ wq.cell? ⟨y1.heap.size, 8, none⟩ = some (.int .i64 3) ∧ wq.cell? ⟨y1.heap.size, 9, none⟩ = some (.int .i64 1) ∧ wq.cell? ⟨y1.heap.size, 10, none⟩ = some (.bool true))) := fun wq hq => ⟨blk5 (s4.below hq s4.lt), blk11 (s2.below hq s2.lt)⟩
  have HB := Lib.hid b3
  have q0 := Below.refl w3.heap.size w3
  have r1 := HS.out _ q0
  clear s4 s2 b3 r0
  go_wp2_with fail
  refine (C1.out _).mono ?_
  rintro e y1 ⟨rfl, hY1⟩
  have q1 := q0.trans (hY1.mono q0.size)
  have r1 := HS.out _ q1
  go_wp2_with fail
  refine (C2.out _).mono ?_
  rintro e y2 ⟨rfl, hY2⟩
  have q2 := q1.trans (hY2.mono q1.size)
  have r2 := HS.out _ q2
  go_wp2_with fail
  refine (C3.out _).mono ?_
  rintro e y3 ⟨rfl, hY3⟩
  have q3 := q2.trans (hY3.mono q2.size)
  have r3 := HS.out _ q3
  go_wp2_with fail
  refine (C4.out _).mono ?_
  rintro e y4 ⟨rfl, hY4⟩
  have q4 := q3.trans (hY4.mono q3.size)
  have r4 := HS.out _ q4
  go_wp2_with fail
  go_ret
  exact ⟨rfl, HB.out.trans (q4.mono HB.out.size)⟩
end Go.Proofs.Ytdpfpcdoocampaa.law10
