/- BitsTurns answers true: signs are laid aside and back as the document has it. Conditions: the numbers are of their kinds. -/
import Derived.Test.YtdadhpghdblgnaaBegun
namespace Go.Proofs.Ytdadhpghdblgnaa.turns
open Go.RowKit Go.Proofs.Ytdadhpghdblgnaa.kit Go.Proofs.Ytdadhpghdblgnaa.nums
set_option linter.unusedVariables false
set_option maxHeartbeats 400000 in
theorem walk (a0 : Int) (a1 : Int) (w : World) (w0 : (Lit.int .i64 a0).wf = true) (w1 : (Lit.int .u64 a1).wf = true) :
    Calls Try.prog 7 #[.int .i64 a0, .int .u64 a1] w fun e w' => e = .returned (.bool true) ∧ Below w.heap.size w w' := by
  have b0 : -9223372036854775808 ≤ a0 ∧ a0 ≤ 9223372036854775807 := by simpa [Lit.wf, IntKind.min, IntKind.max, IntKind.signed, IntKind.bits] using w0
  have b1 : 0 ≤ a1 ∧ a1 ≤ 18446744073709551615 := by simpa [Lit.wf, IntKind.min, IntKind.max, IntKind.signed, IntKind.bits] using w1
  obtain ⟨b00, b01⟩ := b0
  obtain ⟨b10, b11⟩ := b1
  have q0 := zigF_in ⟨b00, b01⟩
  have q1 := zagF_in b10 b11
  unfold InI at q1
  have zg := fun w => ints.zig_any a0 w b00 b01
  have zr := fun w => ints.rzig_any a0 w b00 b01
  have gz := fun w => ints.zag_any a1 w b10 b11
  have gr := fun w => ints.rzag_any a1 w b10 b11
  generalize zigF a0 = z at *
  generalize zagF a1 = g at *
  have ZG := Lib.hid zg
  have ZR := Lib.hid zr
  have GZ := Lib.hid gz
  have GR := Lib.hid gr
  clear zg zr gz gr w0 w1
  go_enter Try.func7, Try.ntmps7
  go_wp2_with fail
  refine (bytes.begun_any _).mono ?_
  rintro e w1 ⟨rfl, hB⟩
  go_wp2_with fail
  refine (ZG.out _).mono ?_
  rintro e w2 ⟨rfl, rfl⟩
  go_wp2_with fail
  refine (ZR.out _).mono ?_
  rintro e w2 ⟨rfl, rfl⟩
  go_wp2_with fail
  refine (GZ.out _).mono ?_
  rintro e w2 ⟨rfl, rfl⟩
  go_wp2_with fail
  refine (GR.out _).mono ?_
  rintro e w2 ⟨rfl, rfl⟩
  go_wp2_with fail
  refine (ints.order_any a0 _ b00 b01).mono ?_
  rintro e w2 ⟨rfl, rfl⟩
  go_wp2_with fail
  refine (ints.rorder_any a0 _ b00 b01).mono ?_
  rintro e w2 ⟨rfl, rfl⟩
  go_wp2_with fail
  refine (ints.back_any a1 _ b10 b11).mono ?_
  rintro e w2 ⟨rfl, rfl⟩
  go_wp2_with fail
  refine (ints.rback_any a1 _ b10 b11).mono ?_
  rintro e w2 ⟨rfl, rfl⟩
  go_wp2_with fail
  go_ret
  exact ⟨rfl, hB⟩
end Go.Proofs.Ytdadhpghdblgnaa.turns
