/- Stamps and attempts stand in a line: plain facts, and what comparing two of them comes to. Conditions: none. -/
import Derived.Test.YtpalhpkbdkodfaaStampI
namespace Go.Proofs.Ytpalhpkbdkodfaa.st
open Go.RowKit Go.Proofs.Ytpalhpkbdkodfaa.kit Go.Proofs.Ytpalhpkbdkodfaa.nums
set_option linter.unusedVariables false

theorem less_three (a b : StL) : (a = b ∧ lessF a b = false ∧ lessF b a = false) ∨ (a ≠ b ∧ lessF a b = true ∧ lessF b a = false) ∨ (a ≠ b ∧ lessF a b = false ∧ lessF b a = true) := by
  obtain ⟨p, q⟩ := a
  obtain ⟨r, s⟩ := b
  unfold lessF
  simp only [StL.mk.injEq, ne_eq, Bool.or_eq_true, Bool.or_eq_false_iff, Bool.and_eq_true, Bool.and_eq_false_iff, decide_eq_true_eq, decide_eq_false_iff_not]
  omega
theorem less_on {a b c : StL} (h : lessF a b = true) (h' : lessF b c = true) : lessF a c = true := by
  unfold lessF at *
  simp only [Bool.or_eq_true, Bool.and_eq_true, decide_eq_true_eq] at *
  omega
theorem lessT_def (a b : TrL) : (lessT a b = true ↔ (a.node < b.node ∨ (a.node = b.node ∧ (a.life < b.life ∨ (a.life = b.life ∧ (a.seq < b.seq ∨ (a.seq = b.seq ∧ a.att < b.att))))))) := by
  unfold lessT
  by_cases h1 : a.node = b.node
  · rw [if_neg (by simpa using h1)]
    by_cases h2 : a.life = b.life
    · rw [if_neg (by simpa using h2)]
      by_cases h3 : a.seq = b.seq
      · rw [if_neg (by simpa using h3), decide_eq_true_eq]; omega
      · rw [if_pos h3, decide_eq_true_eq]; omega
    · rw [if_pos h2, decide_eq_true_eq]; omega
  · rw [if_pos h1, decide_eq_true_eq]; omega
theorem lessT_three (a b : TrL) : (a = b ∧ lessT a b = false ∧ lessT b a = false) ∨ (a ≠ b ∧ lessT a b = true ∧ lessT b a = false) ∨ (a ≠ b ∧ lessT a b = false ∧ lessT b a = true) := by
  have h1 := lessT_def a b
  have h2 := lessT_def b a
  obtain ⟨p, q, r, s⟩ := a
  obtain ⟨p', q', r', s'⟩ := b
  generalize lessT _ _ = x at *
  generalize lessT _ _ = y at *
  simp only [TrL.mk.injEq, ne_eq]
  dsimp only at h1 h2
  cases x <;> cases y <;> simp only [true_iff, false_iff, Bool.false_eq_true, reduceCtorEq] at * <;> simp <;> omega
theorem lessT_on {a b c : TrL} (h : lessT a b = true) (h' : lessT b c = true) : lessT a c = true := by
  rw [lessT_def] at *
  omega
theorem eq_st (p q r s : Int) (w : World) : (binOp BinOp.eql 23 (.agg #[.int .i64 p, .int .i64 q]) (.agg #[.int .i64 r, .int .i64 s])).run Try.prog w = .ok (.bool (decide (StL.mk p q = StL.mk r s))) w := by
  by_cases h1 : p = r <;> by_cases h2 : q = s
  all_goals go_simp
theorem eq_tr (p q r s p' q' r' s' : Int) (w : World) : (binOp BinOp.eql 25 (.agg #[.int .i64 p, .int .i64 q, .int .i64 r, .int .i64 s]) (.agg #[.int .i64 p', .int .i64 q', .int .i64 r', .int .i64 s'])).run Try.prog w = .ok (.bool (decide (TrL.mk p q r s = TrL.mk p' q' r' s'))) w := by
  by_cases h1 : p = p' <;> by_cases h2 : q = q' <;> by_cases h3 : r = r' <;> by_cases h4 : s = s'
  all_goals go_simp
end Go.Proofs.Ytpalhpkbdkodfaa.st
