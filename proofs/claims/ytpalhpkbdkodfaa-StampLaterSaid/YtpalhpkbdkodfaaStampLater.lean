/- StampLater answers true: a limit that is taken behind a ripe answer is greater. No condition. -/
import Derived.Test.YtpalhpkbdkodfaaStampLaw
namespace Go.Proofs.Ytpalhpkbdkodfaa.law6
open Go.RowKit Go.Proofs.Ytpalhpkbdkodfaa.kit Go.Proofs.Ytpalhpkbdkodfaa.nums Go.Proofs.Ytpalhpkbdkodfaa.st Go.Proofs.Ytpalhpkbdkodfaa.ref6 Go.Proofs.Ytpalhpkbdkodfaa.bytes
set_option linter.unusedVariables false

set_option maxHeartbeats 1000000 in
theorem later_walk (f s o a b : Int) (w : World) (hf : (Lit.int .i64 f).wf = true) (hs : (Lit.int .i64 s).wf = true) (ho : (Lit.int .i64 o).wf = true) (ha : (Lit.int .i64 a).wf = true) (hb : (Lit.int .i64 b).wf = true) :
    Calls Try.prog 9 #[.int .i64 f, .int .i64 s, .int .i64 o, .int .i64 a, .int .i64 b] w fun e w' => e = .returned (.bool true) ∧ Below w.heap.size w w' := by
  clear hf hs ho ha hb
  go_enter Try.func9, Try.ntmps9
  go_wp2_with fail
  refine (begun_any _).mono ?_
  rintro e w1 ⟨rfl, hB1⟩
  by_cases h0 : o < 0
  · go_wp2_with fail
    go_ret
    exact ⟨rfl, hB1⟩
  by_cases h1 : f < 0
  · go_wp2_with fail
    go_ret
    exact ⟨rfl, hB1⟩
  by_cases h2 : s < f
  · go_wp2_with fail
    go_ret
    exact ⟨rfl, hB1⟩
  by_cases h3 : 1099511627776 < s
  · go_wp2_with fail
    go_ret
    exact ⟨rfl, hB1⟩
  by_cases h4 : 1099511627776 < o
  · go_wp2_with fail
    go_ret
    exact ⟨rfl, hB1⟩
  by_cases h5 : a < 0
  · go_wp2_with fail
    go_ret
    exact ⟨rfl, hB1⟩
  by_cases h6 : o < a
  · go_wp2_with fail
    go_ret
    exact ⟨rfl, hB1⟩
  by_cases h7 : b < 0
  · go_wp2_with fail
    go_ret
    exact ⟨rfl, hB1⟩
  by_cases h8 : o < b
  · go_wp2_with fail
    go_ret
    exact ⟨rfl, hB1⟩
  have R1 := Lib.hid (fun w => stamp.read_any 0 o (f + a) ⟨by omega, by omega⟩ ⟨by omega, by omega⟩ ⟨by omega, by omega⟩ w)
  have R2 := Lib.hid (fun w => stamp.read_any 0 o (s + b) ⟨by omega, by omega⟩ ⟨by omega, by omega⟩ ⟨by omega, by omega⟩ w)
  have x1 : readF 0 (f + a) = f + a := by unfold readF; omega
  have x2 : readF 0 (s + b) = s + b := by unfold readF; omega
  rw [x1] at R1
  rw [x2] at R2
  have hl : ¬ limBad (s + b) o := by unfold limBad; omega
  have y1 : limF (s + b) o = s + b + o + 1 := if_neg hl
  have y2 : limE (s + b) o = 0 := if_neg hl
  have L := Lib.hid (fun w => stamp.limit_any (s + b) o ⟨by omega, by omega⟩ ⟨by omega, by omega⟩ w)
  rw [y1, y2] at L
  have P1 := Lib.hid (fun w => stamp.ripe_any (f + a) o (f + a) ⟨by omega, by omega⟩ ⟨by omega, by omega⟩ ⟨by omega, by omega⟩ w)
  rw [show decide (f + a ≤ f + a) = true by simp] at P1
  have P2 := Lib.hid (fun w => stamp.ripe_any (f + a) o (f + a + 1) ⟨by omega, by omega⟩ ⟨by omega, by omega⟩ ⟨by omega, by omega⟩ w)
  rw [show decide (f + a + 1 ≤ f + a) = false by simp; omega] at P2
  clear x1 x2 hl y1 y2
  go_wp2_with fail
  refine (R1.out _).mono ?_
  rintro e w2 ⟨rfl, hB2⟩
  have hB12 := hB1.trans (hB2.mono hB1.size)
  have hB3 := hB12.alloc hB12.size (.cells #[.int .i64 (f + a), .int .i64 o] 45)
  have k3 : Blk 45 (w2.alloc (.cells #[.int .i64 (f + a), .int .i64 o] 45)) w2.heap.size [.int .i64 (f + a), .int .i64 o] := heap_alloc_new w2 _
  clear R1
  go_upto_region 6 with (fail)
  generalize (w2.alloc (.cells #[.int .i64 (f + a), .int .i64 o] 45)) = w3 at *
  go_wp2_with fail
  refine (R2.out _).mono ?_
  rintro e w4 ⟨rfl, hB4⟩
  have k4 := k3.below hB4 k3.lt
  have k5 := k4.alloc (.cells #[.int .i64 (s + b), .int .i64 o] 45)
  have hB14 := hB3.trans (hB4.mono hB3.size)
  have hB5 := hB14.alloc hB14.size (.cells #[.int .i64 (s + b), .int .i64 o] 45)
  have j5 : Blk 45 (w4.alloc (.cells #[.int .i64 (s + b), .int .i64 o] 45)) w4.heap.size [.int .i64 (s + b), .int .i64 o] := heap_alloc_new w4 _
  clear R2
  go_upto_region 7 with (fail)
  generalize (w4.alloc (.cells #[.int .i64 (s + b), .int .i64 o] 45)) = w5 at *
  have c0 := j5.cell 0
  have c1 := j5.cell 1
  simp only [List.getElem?_cons_zero, List.getElem?_cons_succ] at c0 c1
  go_wp2_with fail
  refine (L.out _).mono ?_
  rintro e w6 ⟨rfl, hB6⟩
  have k6 := k5.below hB6 k5.lt
  have hB16 := hB5.trans (hB6.mono hB5.size)
  have d0 := k6.cell 0
  have d1 := k6.cell 1
  simp only [List.getElem?_cons_zero, List.getElem?_cons_succ] at d0 d1
  clear c0 c1 L
  go_wp2_with fail
  refine (P1.out _).mono ?_
  rintro e w7 ⟨rfl, hB7⟩
  have k7 := k6.below hB7 k6.lt
  have hB17 := hB16.trans (hB7.mono hB16.size)
  clear d0 d1 P1
  have d0 := k7.cell 0
  have d1 := k7.cell 1
  simp only [List.getElem?_cons_zero, List.getElem?_cons_succ] at d0 d1
  go_wp2_with fail
  refine (P2.out _).mono ?_
  rintro e w8 ⟨rfl, hB8⟩
  have k8 := k7.below hB8 k7.lt
  have hB18 := hB17.trans (hB8.mono hB17.size)
  clear d0 d1 P2
  have d0 := k8.cell 0
  simp only [List.getElem?_cons_zero] at d0
  have hg : f + a < s + b + o + 1 := by omega
  go_wp2_with fail
  go_ret
  exact ⟨by first | rfl | simp [hg], hB18⟩
end Go.Proofs.Ytpalhpkbdkodfaa.law6
