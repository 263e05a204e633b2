/- What the document's Tie, Limit and Read (antipoderef6) come to. Conditions: int64. -/
import Derived.Test.YtpalhpkbdkodfaaRef6
namespace Go.Proofs.Ytpalhpkbdkodfaa.ref6
open Go.RowKit Go.Proofs.Ytpalhpkbdkodfaa.kit Go.Proofs.Ytpalhpkbdkodfaa.nums Go.Proofs.Ytpalhpkbdkodfaa.st
set_option linter.unusedVariables false

theorem tie_any (n l s a : Int) (w : World) :
    Calls Try.prog 24 #[.int .i64 n, .int .i64 l, .int .i64 s, .int .i64 a] w fun e w' => e = .returned (.tuple #[.int .i64 (tieF n l s a), .int .i64 (tieE n l s a)]) ∧ w' = w := by
  by_cases h0 : n < 1
  · have hb : tieBad n l s a := by unfold tieBad; omega
    have H1 : Hid (tieF n l s a = 0) := if_pos hb
    have H2 : Hid (tieE n l s a = 1) := if_pos hb
    clear hb
    go_enter Try.func24, Try.ntmps24
    go_wp2_with fail
    go_ret2
    exact ⟨by rw [H1.out, H2.out]; rfl, rfl⟩
  by_cases h1 : 9 < n
  · have hb : tieBad n l s a := by unfold tieBad; omega
    have H1 : Hid (tieF n l s a = 0) := if_pos hb
    have H2 : Hid (tieE n l s a = 1) := if_pos hb
    clear hb
    go_enter Try.func24, Try.ntmps24
    go_wp2_with fail
    go_ret2
    exact ⟨by rw [H1.out, H2.out]; rfl, rfl⟩
  by_cases h2 : a < 0
  · have hb : tieBad n l s a := by unfold tieBad; omega
    have H1 : Hid (tieF n l s a = 0) := if_pos hb
    have H2 : Hid (tieE n l s a = 1) := if_pos hb
    clear hb
    go_enter Try.func24, Try.ntmps24
    go_wp2_with fail
    go_ret2
    exact ⟨by rw [H1.out, H2.out]; rfl, rfl⟩
  by_cases h3 : 15 < a
  · have hb : tieBad n l s a := by unfold tieBad; omega
    have H1 : Hid (tieF n l s a = 0) := if_pos hb
    have H2 : Hid (tieE n l s a = 1) := if_pos hb
    clear hb
    go_enter Try.func24, Try.ntmps24
    go_wp2_with fail
    go_ret2
    exact ⟨by rw [H1.out, H2.out]; rfl, rfl⟩
  by_cases h4 : l < 0
  · have hb : tieBad n l s a := by unfold tieBad; omega
    have H1 : Hid (tieF n l s a = 0) := if_pos hb
    have H2 : Hid (tieE n l s a = 1) := if_pos hb
    clear hb
    go_enter Try.func24, Try.ntmps24
    go_wp2_with fail
    go_ret2
    exact ⟨by rw [H1.out, H2.out]; rfl, rfl⟩
  by_cases h5 : 1048576 ≤ l
  · have hb : tieBad n l s a := by unfold tieBad; omega
    have H1 : Hid (tieF n l s a = 0) := if_pos hb
    have H2 : Hid (tieE n l s a = 1) := if_pos hb
    clear hb
    go_enter Try.func24, Try.ntmps24
    go_wp2_with fail
    go_ret2
    exact ⟨by rw [H1.out, H2.out]; rfl, rfl⟩
  by_cases h6 : s < 0
  · have hb : tieBad n l s a := by unfold tieBad; omega
    have H1 : Hid (tieF n l s a = 0) := if_pos hb
    have H2 : Hid (tieE n l s a = 1) := if_pos hb
    clear hb
    go_enter Try.func24, Try.ntmps24
    go_wp2_with fail
    go_ret2
    exact ⟨by rw [H1.out, H2.out]; rfl, rfl⟩
  by_cases h7 : 16777216 ≤ s
  · have hb : tieBad n l s a := by unfold tieBad; omega
    have H1 : Hid (tieF n l s a = 0) := if_pos hb
    have H2 : Hid (tieE n l s a = 1) := if_pos hb
    clear hb
    go_enter Try.func24, Try.ntmps24
    go_wp2_with fail
    go_ret2
    exact ⟨by rw [H1.out, H2.out]; rfl, rfl⟩
  have hb : ¬ tieBad n l s a := by unfold tieBad; omega
  have H1 : Hid (tieF n l s a = ((n * 1048576 + l) * 16777216 + s) * 16 + a) := if_neg hb
  have H2 : Hid (tieE n l s a = 0) := if_neg hb
  clear hb
  go_enter Try.func24, Try.ntmps24
  go_wp2_with fail
  go_ret2
  exact ⟨by rw [H1.out, H2.out]; rfl, rfl⟩
theorem limit_any (c o : Int) (hc : -9223372036854775808 ≤ c ∧ c ≤ 9223372036854775807) (ho : -9223372036854775808 ≤ o ∧ o ≤ 9223372036854775807) (w : World) :
    Calls Try.prog 26 #[.agg #[.int .i64 c, .int .i64 o]] w fun e w' => e = .returned (.tuple #[.int .i64 (limF c o), .int .i64 (limE c o)]) ∧ Below w.heap.size w w' := by
  have HB : Hid (Below w.heap.size w (w.alloc (.cells #[.int .i64 c, .int .i64 o] 46))) := (Below.refl _ _).alloc (Nat.le_refl _) _
  by_cases h0 : c < 0
  · have hb : limBad c o := by unfold limBad; omega
    have H1 : Hid (limF c o = 0) := if_pos hb
    have H2 : Hid (limE c o = 5) := if_pos hb
    clear hb
    go_enter Try.func26, Try.ntmps26
    go_wp2_with fail
    go_ret2
    exact ⟨by rw [H1.out, H2.out]; rfl, HB.out⟩
  by_cases h1 : o < 0
  · have hb : limBad c o := by unfold limBad; omega
    have H1 : Hid (limF c o = 0) := if_pos hb
    have H2 : Hid (limE c o = 5) := if_pos hb
    clear hb
    go_enter Try.func26, Try.ntmps26
    go_wp2_with fail
    go_ret2
    exact ⟨by rw [H1.out, H2.out]; rfl, HB.out⟩
  by_cases h2 : 4611686018427387904 ≤ c
  · have hb : limBad c o := by unfold limBad; omega
    have H1 : Hid (limF c o = 0) := if_pos hb
    have H2 : Hid (limE c o = 5) := if_pos hb
    clear hb
    go_enter Try.func26, Try.ntmps26
    go_wp2_with fail
    go_ret2
    exact ⟨by rw [H1.out, H2.out]; rfl, HB.out⟩
  by_cases h3 : 4611686018427387903 - c < o
  · have hb : limBad c o := by unfold limBad; omega
    have H1 : Hid (limF c o = 0) := if_pos hb
    have H2 : Hid (limE c o = 5) := if_pos hb
    clear hb
    go_enter Try.func26, Try.ntmps26
    go_wp2_with fail
    go_ret2
    exact ⟨by rw [H1.out, H2.out]; rfl, HB.out⟩
  have hb : ¬ limBad c o := by unfold limBad; omega
  have H1 : Hid (limF c o = c + o + 1) := if_neg hb
  have H2 : Hid (limE c o = 0) := if_neg hb
  clear hb
  go_enter Try.func26, Try.ntmps26
  go_wp2_with fail
  go_ret2
  exact ⟨by rw [H1.out, H2.out]; rfl, HB.out⟩
theorem read_any (c o r : Int) (w : World) :
    Calls Try.prog 29 #[.agg #[.int .i64 c, .int .i64 o], .int .i64 r] w fun e w' => e = .returned (.agg #[.int .i64 (readF c r), .int .i64 o]) ∧ Below w.heap.size w w' := by
  go_enter Try.func29, Try.ntmps29
  go_wp2_with fail
  all_goals (
    (try simp only [Exit.inBlock, Exit.then])
    refine bodyPost_ret (by simp [results, Try.results29, go_sem]; try rfl) rfl ?_
    refine ⟨?_, ((Below.refl _ _).alloc (Nat.le_refl _) _).alloc (by simp) _⟩
    simp only [Ending.returned.injEq, Value.agg.injEq, Array.mk.injEq, List.cons.injEq, Value.int.injEq, true_and, and_true, readF, Int.max_def, Int.min_def]
    repeat' split
    all_goals omega)
end Go.Proofs.Ytpalhpkbdkodfaa.ref6
