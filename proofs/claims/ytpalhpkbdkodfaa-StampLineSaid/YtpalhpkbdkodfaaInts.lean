/- What the functions of package bits on whole numbers, and the document's, come to: Zig, Zag, Order, Back, Add, Mul. Conditions: the numbers are of their kinds. -/
import Derived.Test.YtpalhpkbdkodfaaProg
import Derived.Test.YtpalhpkbdkodfaaArith
import Derived.WalkKit
import Derived.WalkLawsBesides
import Derived.WalkSpells
import Derived.Lib.Hide
import Derived.Outline
namespace Go.Proofs.Ytpalhpkbdkodfaa.ints
open Go.RowKit Go.Proofs.Ytpalhpkbdkodfaa.nums
set_option linter.unusedVariables false

theorem ret_two {k j : IntKind} {a b c : Int} (h : a = b) : Ending.returned (.tuple #[.int k a, .int j c]) = .returned (.tuple #[.int k b, .int j c]) := by rw [h]
theorem ret_int {k : IntKind} {a b : Int} (h : a = b) : Ending.returned (.int k a) = .returned (.int k b) := by rw [h]

theorem order_any (v : Int) (w : World) (h0 : -9223372036854775808 ≤ v) (h1 : v ≤ 9223372036854775807) :
    Calls Try.prog 33 #[.int .i64 v] w fun e w' => e = .returned (.int .u64 (v + 9223372036854775808)) ∧ w = w' := by
  go_enter Try.func33, Try.ntmps33
  go_wp2_with fail
  go_ret
  exact ⟨ret_int (order_bits v ⟨h0, h1⟩), rfl⟩
theorem back_any (u : Int) (w : World) (h0 : 0 ≤ u) (h1 : u ≤ 18446744073709551615) :
    Calls Try.prog 35 #[.int .u64 u] w fun e w' => e = .returned (.int .i64 (u - 9223372036854775808)) ∧ w = w' := by
  go_enter Try.func35, Try.ntmps35
  go_wp2_with fail
  go_ret
  exact ⟨ret_int (back_bits u h0 h1), rfl⟩

theorem rorder_any (v : Int) (w : World) (h0 : -9223372036854775808 ≤ v) (h1 : v ≤ 9223372036854775807) :
    Calls Try.prog 37 #[.int .i64 v] w fun e w' => e = .returned (.int .u64 (v + 9223372036854775808)) ∧ w = w' := by
  by_cases h : 0 ≤ v
  all_goals
    go_enter Try.func37, Try.ntmps37
    go_wp2_with fail
    go_ret
    exact ⟨ret_int (by omega), rfl⟩
theorem rback_any (u : Int) (w : World) (h0 : 0 ≤ u) (h1 : u ≤ 18446744073709551615) :
    Calls Try.prog 39 #[.int .u64 u] w fun e w' => e = .returned (.int .i64 (u - 9223372036854775808)) ∧ w = w' := by
  by_cases h : 9223372036854775808 ≤ u
  all_goals
    go_enter Try.func39, Try.ntmps39
    go_wp2_with fail
    go_ret
    exact ⟨ret_int (by omega), rfl⟩

theorem mag_in {a : Int} (h : InI a) (h0 : a ≠ 0) : 1 ≤ mag a ∧ mag a ≤ 9223372036854775808 := by unfold mag; unfold InI at h; split <;> omega

end Go.Proofs.Ytpalhpkbdkodfaa.ints
