/- What the functions of package bits on whole numbers, and the document's, come to: Zig, Zag, Order, Back, Add, Mul. Conditions: the numbers are of their kinds. -/
import Derived.Test.YtodpaeaeigjmdaaDoorProg
import Derived.Test.YtodpaeaeigjmdaaDoorArith
import Derived.WalkKit
import Derived.WalkLawsBesides
import Derived.WalkSpells
import Derived.Lib.Hide
import Derived.Outline
namespace Go.Proofs.YtodpaeaeigjmdaaDoor.ints
open Go.RowKit Go.Proofs.YtodpaeaeigjmdaaDoor.nums
set_option linter.unusedVariables false

theorem ret_two {k j : IntKind} {a b c : Int} (h : a = b) : Ending.returned (.tuple #[.int k a, .int j c]) = .returned (.tuple #[.int k b, .int j c]) := by rw [h]
theorem ret_int {k : IntKind} {a b : Int} (h : a = b) : Ending.returned (.int k a) = .returned (.int k b) := by rw [h]

theorem zig_any (v : Int) (w : World) (h0 : -9223372036854775808 ≤ v) (h1 : v ≤ 9223372036854775807) :
    Calls Tryd.prog 60 #[.int .i64 v] w fun e w' => e = .returned (.int .u64 (zigF v)) ∧ w = w' := by
  go_enter Tryd.func60, Tryd.ntmps60
  go_wp2_with fail
  go_ret
  exact ⟨ret_int (zig_bits v ⟨h0, h1⟩), rfl⟩
theorem zag_any (u : Int) (w : World) (h0 : 0 ≤ u) (h1 : u ≤ 18446744073709551615) :
    Calls Tryd.prog 69 #[.int .u64 u] w fun e w' => e = .returned (.int .i64 (zagF u)) ∧ w = w' := by
  go_enter Tryd.func69, Tryd.ntmps69
  go_wp2_with fail
  go_ret
  exact ⟨ret_int (zag_bits u h0 h1), rfl⟩
theorem order_any (v : Int) (w : World) (h0 : -9223372036854775808 ≤ v) (h1 : v ≤ 9223372036854775807) :
    Calls Tryd.prog 58 #[.int .i64 v] w fun e w' => e = .returned (.int .u64 (v + 9223372036854775808)) ∧ w = w' := by
  go_enter Tryd.func58, Tryd.ntmps58
  go_wp2_with fail
  go_ret
  exact ⟨ret_int (order_bits v ⟨h0, h1⟩), rfl⟩
theorem back_any (u : Int) (w : World) (h0 : 0 ≤ u) (h1 : u ≤ 18446744073709551615) :
    Calls Tryd.prog 67 #[.int .u64 u] w fun e w' => e = .returned (.int .i64 (u - 9223372036854775808)) ∧ w = w' := by
  go_enter Tryd.func67, Tryd.ntmps67
  go_wp2_with fail
  go_ret
  exact ⟨ret_int (back_bits u h0 h1), rfl⟩

theorem rzig_any (v : Int) (w : World) (h0 : -9223372036854775808 ≤ v) (h1 : v ≤ 9223372036854775807) :
    Calls Tryd.prog 35 #[.int .i64 v] w fun e w' => e = .returned (.int .u64 (zigF v)) ∧ w = w' := by
  by_cases h : 0 ≤ v
  all_goals
    go_enter Tryd.func35, Tryd.ntmps35
    go_wp2_with fail
    go_ret
    exact ⟨ret_int (by unfold zigF; first | rw [if_pos h] | (rw [if_neg (by omega)]; omega)), rfl⟩
theorem rzag_any (u : Int) (w : World) (h0 : 0 ≤ u) (h1 : u ≤ 18446744073709551615) :
    Calls Tryd.prog 49 #[.int .u64 u] w fun e w' => e = .returned (.int .i64 (zagF u)) ∧ w = w' := by
  by_cases h : u % 2 = 0
  · have hb : (u % 2 == 0) = true := by rw [h]; rfl
    have HZ := Lib.hid (show zagF u = u / 2 from if_pos h)
    clear h
    go_enter Tryd.func49, Tryd.ntmps49
    go_wp2_with fail
    go_ret
    exact ⟨ret_int HZ.out.symm, rfl⟩
  · have hb : (u % 2 == 0) = false := beq_eq_false_iff_ne.2 h
    have HZ := Lib.hid (show zagF u = -(u / 2) - 1 from if_neg h)
    clear h
    go_enter Tryd.func49, Tryd.ntmps49
    go_wp2_with fail
    go_ret
    exact ⟨ret_int HZ.out.symm, rfl⟩
theorem rorder_any (v : Int) (w : World) (h0 : -9223372036854775808 ≤ v) (h1 : v ≤ 9223372036854775807) :
    Calls Tryd.prog 33 #[.int .i64 v] w fun e w' => e = .returned (.int .u64 (v + 9223372036854775808)) ∧ w = w' := by
  by_cases h : 0 ≤ v
  all_goals
    go_enter Tryd.func33, Tryd.ntmps33
    go_wp2_with fail
    go_ret
    exact ⟨ret_int (by omega), rfl⟩
theorem rback_any (u : Int) (w : World) (h0 : 0 ≤ u) (h1 : u ≤ 18446744073709551615) :
    Calls Tryd.prog 44 #[.int .u64 u] w fun e w' => e = .returned (.int .i64 (u - 9223372036854775808)) ∧ w = w' := by
  by_cases h : 9223372036854775808 ≤ u
  all_goals
    go_enter Tryd.func44, Tryd.ntmps44
    go_wp2_with fail
    go_ret
    exact ⟨ret_int (by omega), rfl⟩

theorem mag_in {a : Int} (h : InI a) (h0 : a ≠ 0) : 1 ≤ mag a ∧ mag a ≤ 9223372036854775808 := by unfold mag; unfold InI at h; split <;> omega

end Go.Proofs.YtodpaeaeigjmdaaDoor.ints
