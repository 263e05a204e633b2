/- What the functions of package bits on whole numbers, and the document's, come to: Zig, Zag, Order, Back, Add, Mul. Conditions: the numbers are of their kinds. -/
import Derived.Test.YtdadhpghdblgnaaProg
import Derived.Test.YtdadhpghdblgnaaArith
import Derived.WalkKit
import Derived.WalkLawsBesides
import Derived.WalkSpells
import Derived.Lib.Hide
import Derived.Outline
namespace Go.Proofs.Ytdadhpghdblgnaa.ints
open Go.RowKit Go.Proofs.Ytdadhpghdblgnaa.nums
set_option linter.unusedVariables false

theorem ret_two {k j : IntKind} {a b c : Int} (h : a = b) : Ending.returned (.tuple #[.int k a, .int j c]) = .returned (.tuple #[.int k b, .int j c]) := by rw [h]
theorem ret_int {k : IntKind} {a b : Int} (h : a = b) : Ending.returned (.int k a) = .returned (.int k b) := by rw [h]

theorem zig_any (v : Int) (w : World) (h0 : -9223372036854775808 ≤ v) (h1 : v ≤ 9223372036854775807) :
    Calls Try.prog 27 #[.int .i64 v] w fun e w' => e = .returned (.int .u64 (zigF v)) ∧ w = w' := by
  go_enter Try.func27, Try.ntmps27
  go_wp2_with fail
  go_ret
  exact ⟨ret_int (zig_bits v ⟨h0, h1⟩), rfl⟩
theorem zag_any (u : Int) (w : World) (h0 : 0 ≤ u) (h1 : u ≤ 18446744073709551615) :
    Calls Try.prog 26 #[.int .u64 u] w fun e w' => e = .returned (.int .i64 (zagF u)) ∧ w = w' := by
  go_enter Try.func26, Try.ntmps26
  go_wp2_with fail
  go_ret
  exact ⟨ret_int (zag_bits u h0 h1), rfl⟩
theorem order_any (v : Int) (w : World) (h0 : -9223372036854775808 ≤ v) (h1 : v ≤ 9223372036854775807) :
    Calls Try.prog 29 #[.int .i64 v] w fun e w' => e = .returned (.int .u64 (v + 9223372036854775808)) ∧ w = w' := by
  go_enter Try.func29, Try.ntmps29
  go_wp2_with fail
  go_ret
  exact ⟨ret_int (order_bits v ⟨h0, h1⟩), rfl⟩
theorem back_any (u : Int) (w : World) (h0 : 0 ≤ u) (h1 : u ≤ 18446744073709551615) :
    Calls Try.prog 28 #[.int .u64 u] w fun e w' => e = .returned (.int .i64 (u - 9223372036854775808)) ∧ w = w' := by
  go_enter Try.func28, Try.ntmps28
  go_wp2_with fail
  go_ret
  exact ⟨ret_int (back_bits u h0 h1), rfl⟩

theorem rzig_any (v : Int) (w : World) (h0 : -9223372036854775808 ≤ v) (h1 : v ≤ 9223372036854775807) :
    Calls Try.prog 30 #[.int .i64 v] w fun e w' => e = .returned (.int .u64 (zigF v)) ∧ w = w' := by
  by_cases h : 0 ≤ v
  all_goals
    go_enter Try.func30, Try.ntmps30
    go_wp2_with fail
    go_ret
    exact ⟨ret_int (by unfold zigF; first | rw [if_pos h] | (rw [if_neg (by omega)]; omega)), rfl⟩
theorem rzag_any (u : Int) (w : World) (h0 : 0 ≤ u) (h1 : u ≤ 18446744073709551615) :
    Calls Try.prog 31 #[.int .u64 u] w fun e w' => e = .returned (.int .i64 (zagF u)) ∧ w = w' := by
  by_cases h : u % 2 = 0
  · have hb : (u % 2 == 0) = true := by rw [h]; rfl
    have HZ := Lib.hid (show zagF u = u / 2 from if_pos h)
    clear h
    go_enter Try.func31, Try.ntmps31
    go_wp2_with fail
    go_ret
    exact ⟨ret_int HZ.out.symm, rfl⟩
  · have hb : (u % 2 == 0) = false := beq_eq_false_iff_ne.2 h
    have HZ := Lib.hid (show zagF u = -(u / 2) - 1 from if_neg h)
    clear h
    go_enter Try.func31, Try.ntmps31
    go_wp2_with fail
    go_ret
    exact ⟨ret_int HZ.out.symm, rfl⟩
theorem rorder_any (v : Int) (w : World) (h0 : -9223372036854775808 ≤ v) (h1 : v ≤ 9223372036854775807) :
    Calls Try.prog 32 #[.int .i64 v] w fun e w' => e = .returned (.int .u64 (v + 9223372036854775808)) ∧ w = w' := by
  by_cases h : 0 ≤ v
  all_goals
    go_enter Try.func32, Try.ntmps32
    go_wp2_with fail
    go_ret
    exact ⟨ret_int (by omega), rfl⟩
theorem rback_any (u : Int) (w : World) (h0 : 0 ≤ u) (h1 : u ≤ 18446744073709551615) :
    Calls Try.prog 33 #[.int .u64 u] w fun e w' => e = .returned (.int .i64 (u - 9223372036854775808)) ∧ w = w' := by
  by_cases h : 9223372036854775808 ≤ u
  all_goals
    go_enter Try.func33, Try.ntmps33
    go_wp2_with fail
    go_ret
    exact ⟨ret_int (by omega), rfl⟩

/-- The sum, or the document's error. -/
theorem add_ok (a b : Int) (w : World) (ha : InI a) (hb : InI b) (h : InI (a + b)) :
    Calls Try.prog 34 #[.int .i64 a, .int .i64 b] w fun e w' => e = .returned (.tuple #[.int .i64 (a + b), .int .i64 0]) ∧ w = w' := by
  have hs : ¬ (bits .and .i64 (bits .xor .i64 (wrap64 (a + b)) a) (bits .xor .i64 (wrap64 (a + b)) b) < 0) := fun hn => (add_sign a b ha hb).1 hn h
  have hw : wrap64 (a + b) = a + b := by unfold wrap64; unfold InI at h; omega
  have HW := Lib.hid hw
  have hA := Lib.hid h
  clear hw ha hb h
  go_enter Try.func34, Try.ntmps34
  go_wp2_with fail
  go_ret2
  exact ⟨ret_two HW.out, rfl⟩
theorem add_out (a b : Int) (w : World) (ha : InI a) (hb : InI b) (h : ¬ InI (a + b)) :
    Calls Try.prog 34 #[.int .i64 a, .int .i64 b] w fun e w' => e = .returned (.tuple #[.int .i64 0, .int .i64 5]) ∧ w = w' := by
  have hs : bits .and .i64 (bits .xor .i64 (wrap64 (a + b)) a) (bits .xor .i64 (wrap64 (a + b)) b) < 0 := (add_sign a b ha hb).2 h
  clear ha hb h
  go_enter Try.func34, Try.ntmps34
  go_wp2_with fail
  go_ret2
  exact ⟨rfl, rfl⟩

theorem radd_ok (a b : Int) (w : World) (ha : InI a) (hb : InI b) (h : InI (a + b)) :
    Calls Try.prog 35 #[.int .i64 a, .int .i64 b] w fun e w' => e = .returned (.tuple #[.int .i64 (a + b), .int .i64 0]) ∧ w = w' := by
  obtain ⟨ha0, ha1⟩ := ha
  obtain ⟨hb0, hb1⟩ := hb
  obtain ⟨hs0, hs1⟩ := h
  rcases (show a < 0 ∨ a = 0 ∨ 0 < a by omega) with h1 | h1 | h1
  case' inr.inl => subst h1
  all_goals
    go_enter Try.func35, Try.ntmps35
    go_wp2_with fail
    go_ret2
    exact ⟨by first | rfl | (simp), rfl⟩
theorem radd_out (a b : Int) (w : World) (ha : InI a) (hb : InI b) (h : ¬ InI (a + b)) :
    Calls Try.prog 35 #[.int .i64 a, .int .i64 b] w fun e w' => e = .returned (.tuple #[.int .i64 0, .int .i64 5]) ∧ w = w' := by
  obtain ⟨ha0, ha1⟩ := ha
  obtain ⟨hb0, hb1⟩ := hb
  rcases (show (a < 0 ∧ b < -9223372036854775808 - a) ∨ (0 < a ∧ 9223372036854775807 - a < b) by unfold InI at h; omega) with h1 | h1
  all_goals
    obtain ⟨h1, h2⟩ := h1
    clear h
    go_enter Try.func35, Try.ntmps35
    go_wp2_with fail
    go_ret2
    exact ⟨rfl, rfl⟩

/-- The product, or the document's error. -/
theorem mul_zero (b : Int) (w : World) :
    Calls Try.prog 36 #[.int .i64 0, .int .i64 b] w fun e w' => e = .returned (.tuple #[.int .i64 0, .int .i64 0]) ∧ w = w' := by
  go_enter Try.func36, Try.ntmps36
  go_wp2_with fail
  go_ret2
  exact ⟨rfl, rfl⟩
theorem mul_ok (a b : Int) (w : World) (h0 : a ≠ 0) (hb : InI b) (h : InI (a * b)) :
    Calls Try.prog 36 #[.int .i64 a, .int .i64 b] w fun e w' => e = .returned (.tuple #[.int .i64 (a * b), .int .i64 0]) ∧ w = w' := by
  have hz : (a == 0) = false := beq_eq_false_iff_ne.2 h0
  have hz2 : ¬ a = 0 := h0
  have hq : wrap64 ((wrap64 (a * b)).tdiv a) = b := mul_in a b h0 hb h
  have HW := Lib.hid (show wrap64 (a * b) = a * b by unfold wrap64; unfold InI at h; omega)
  have hc : (a == -1) = false ∨ (a == -1) = true ∧ (b == -9223372036854775808) = false := by
    by_cases h1 : a = -1
    · subst h1
      exact .inr ⟨rfl, beq_eq_false_iff_ne.2 (mul_in_not b h)⟩
    · exact .inl (beq_eq_false_iff_ne.2 h1)
  clear h0 hb h
  rcases hc with h1 | ⟨h1, h2⟩
  all_goals
    go_enter Try.func36, Try.ntmps36
    go_wp2_with fail
    go_ret2
    exact ⟨ret_two HW.out, rfl⟩
theorem mul_no (a b : Int) (w : World) (h0 : a ≠ 0) (ha : InI a) (hb : InI b) (h : ¬ InI (a * b)) :
    Calls Try.prog 36 #[.int .i64 a, .int .i64 b] w fun e w' => e = .returned (.tuple #[.int .i64 0, .int .i64 5]) ∧ w = w' := by
  have hz : (a == 0) = false := beq_eq_false_iff_ne.2 h0
  have hz2 : ¬ a = 0 := h0
  have hc : (¬ wrap64 ((wrap64 (a * b)).tdiv a) = b) ∨ wrap64 ((wrap64 (a * b)).tdiv a) = b ∧ (a == -1) = true ∧ (b == -9223372036854775808) = true := by
    by_cases hn : a = -1 ∧ b = -9223372036854775808
    · obtain ⟨rfl, rfl⟩ := hn
      by_cases hq : wrap64 ((wrap64 (-1 * -9223372036854775808)).tdiv (-1)) = -9223372036854775808
      · exact .inr ⟨hq, rfl, rfl⟩
      · exact .inl hq
    · exact .inl (mul_out a b h0 ha hb h hn)
  clear h0 ha hb h
  rcases hc with h1 | ⟨h1, h2, h3⟩
  all_goals
    go_enter Try.func36, Try.ntmps36
    go_wp2_with fail
    go_ret2
    exact ⟨rfl, rfl⟩

theorem size_any (a : Int) (w : World) (h0 : -9223372036854775808 ≤ a) (h1 : a ≤ 9223372036854775807) :
    Calls Try.prog 40 #[.int .i64 a] w fun e w' => e = .returned (.int .u64 (mag a)) ∧ w = w' := by
  by_cases h : a < 0
  all_goals
    go_enter Try.func40, Try.ntmps40
    go_wp2_with fail
    go_ret
    exact ⟨ret_int (by unfold mag; first | (rw [if_pos (by omega)]; omega) | (rw [if_neg (by omega)])), rfl⟩
theorem rmul_zero (a b : Int) (w : World) (h : a = 0 ∨ b = 0) :
    Calls Try.prog 37 #[.int .i64 a, .int .i64 b] w fun e w' => e = .returned (.tuple #[.int .i64 0, .int .i64 0]) ∧ w = w' := by
  by_cases ha : a = 0
  · subst ha
    clear h
    go_enter Try.func37, Try.ntmps37
    go_wp2_with fail
    go_ret2
    exact ⟨rfl, rfl⟩
  · obtain rfl : b = 0 := by omega
    have hz : (a == 0) = false := beq_eq_false_iff_ne.2 ha
    clear h
    go_enter Try.func37, Try.ntmps37
    go_wp2_with fail
    go_ret2
    exact ⟨rfl, rfl⟩
theorem mag_in {a : Int} (h : InI a) (h0 : a ≠ 0) : 1 ≤ mag a ∧ mag a ≤ 9223372036854775808 := by unfold mag; unfold InI at h; split <;> omega

set_option maxHeartbeats 400000 in
theorem rmul_ok (a b : Int) (w : World) (ha : InI a) (hb : InI b) (h0 : a ≠ 0) (h1 : b ≠ 0) (h : InI (a * b)) :
    Calls Try.prog 37 #[.int .i64 a, .int .i64 b] w fun e w' => e = .returned (.tuple #[.int .i64 (a * b), .int .i64 0]) ∧ w = w' := by
  have hz : (a == 0) = false := beq_eq_false_iff_ne.2 h0
  have hy : (b == 0) = false := beq_eq_false_iff_ne.2 h1
  have HW := Lib.hid (show wrap64 (a * b) = a * b by unfold wrap64; unfold InI at h; omega)
  have hr : ¬ _ := fun k => (mul_ref a b h0 h1).1 k h
  have ma := mag_in ha h0
  have mb := mag_in hb h1
  have ca := fun w => size_any a w ha.1 ha.2
  have cb := fun w => size_any b w hb.1 hb.2
  have CA := Lib.hid ca
  have CB := Lib.hid cb
  clear h0 h1 ha hb h ca cb
  generalize mag a = x at *
  generalize mag b = y at *
  rcases d1 : decide (a < 0) with _ | _ <;> rcases d2 : decide (b < 0) with _ | _ <;> simp only [d1, d2, if_true, if_false, reduceCtorEq] at hr
  all_goals
    go_enter Try.func37, Try.ntmps37
    go_wp2_with fail
    refine (CA.out _).mono ?_
    rintro e w' ⟨rfl, rfl⟩
    go_wp2_with fail
    refine (CB.out _).mono ?_
    rintro e w' ⟨rfl, rfl⟩
    go_wp2_with fail
    go_ret2
    exact ⟨ret_two HW.out, rfl⟩
set_option maxHeartbeats 400000 in
theorem rmul_out (a b : Int) (w : World) (ha : InI a) (hb : InI b) (h0 : a ≠ 0) (h1 : b ≠ 0) (h : ¬ InI (a * b)) :
    Calls Try.prog 37 #[.int .i64 a, .int .i64 b] w fun e w' => e = .returned (.tuple #[.int .i64 0, .int .i64 5]) ∧ w = w' := by
  have hz : (a == 0) = false := beq_eq_false_iff_ne.2 h0
  have hy : (b == 0) = false := beq_eq_false_iff_ne.2 h1
  have hr := (mul_ref a b h0 h1).2 h
  have ma := mag_in ha h0
  have mb := mag_in hb h1
  have ca := fun w => size_any a w ha.1 ha.2
  have cb := fun w => size_any b w hb.1 hb.2
  have CA := Lib.hid ca
  have CB := Lib.hid cb
  clear h0 h1 ha hb h ca cb
  generalize mag a = x at *
  generalize mag b = y at *
  rcases d1 : decide (a < 0) with _ | _ <;> rcases d2 : decide (b < 0) with _ | _ <;> simp only [d1, d2, if_true, if_false, reduceCtorEq] at hr
  all_goals
    go_enter Try.func37, Try.ntmps37
    go_wp2_with fail
    refine (CA.out _).mono ?_
    rintro e w' ⟨rfl, rfl⟩
    go_wp2_with fail
    refine (CB.out _).mono ?_
    rintro e w' ⟨rfl, rfl⟩
    go_wp2_with fail
    go_ret2
    exact ⟨rfl, rfl⟩
end Go.Proofs.Ytdadhpghdblgnaa.ints
