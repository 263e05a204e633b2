/- Comparisons of configurations and joints. Conditions: none. -/
import Derived.Test.YtfcljdpjjabhjaaDoorKitCf
namespace Go.Proofs.YtfcljdpjjabhjaaDoor.kit
open Go Go.RowKit Go.Proofs.YtfcljdpjjabhjaaDoor.nums Go.Proofs.YtfcljdpjjabhjaaDoor.cf
set_option linter.unusedVariables false

theorem cf_zero (v x l : Nat) (e k : Int) : ((⟨v, x, l, e, k⟩ : CfL) = zeroC) ↔ v = 0 ∧ x = 0 ∧ l = 0 ∧ e = 0 ∧ k = 0 := by simp [zeroC]
theorem neq_zero (v x l : Nat) (e k : Int) (w : World) : (binOp .neq 30 (.agg #[.int .u16 (v : Int), .int .u16 (x : Int), .int .u16 (l : Int), .int .i64 e, .int .i64 k]) (.agg #[.int .u16 0, .int .u16 0, .int .u16 0, .int .i64 0, .int .i64 0])).run Tryd.prog w = .ok (.bool (!decide ((⟨v, x, l, e, k⟩ : CfL) = zeroC))) w := by
  have hd : decide ((⟨v, x, l, e, k⟩ : CfL) = zeroC) = decide (v = 0 ∧ x = 0 ∧ l = 0 ∧ e = 0 ∧ k = 0) := decide_eq_decide.2 (cf_zero v x l e k)
  rw [hd]
  clear hd
  by_cases h1 : v = 0 <;> by_cases h2 : x = 0 <;> by_cases h3 : l = 0 <;> by_cases h4 : e = 0 <;> by_cases h5 : k = 0
  all_goals go_simp
theorem eql_zero (v x l : Nat) (e k : Int) (w : World) : (binOp .eql 30 (.agg #[.int .u16 (v : Int), .int .u16 (x : Int), .int .u16 (l : Int), .int .i64 e, .int .i64 k]) (.agg #[.int .u16 0, .int .u16 0, .int .u16 0, .int .i64 0, .int .i64 0])).run Tryd.prog w = .ok (.bool (decide ((⟨v, x, l, e, k⟩ : CfL) = zeroC))) w := by
  have hd : decide ((⟨v, x, l, e, k⟩ : CfL) = zeroC) = decide (v = 0 ∧ x = 0 ∧ l = 0 ∧ e = 0 ∧ k = 0) := decide_eq_decide.2 (cf_zero v x l e k)
  rw [hd]
  clear hd
  by_cases h1 : v = 0 <;> by_cases h2 : x = 0 <;> by_cases h3 : l = 0 <;> by_cases h4 : e = 0 <;> by_cases h5 : k = 0
  all_goals go_simp
theorem neq_self (v x l : Nat) (e k : Int) (w : World) : (binOp .neq 30 (.agg #[.int .u16 (v : Int), .int .u16 (x : Int), .int .u16 (l : Int), .int .i64 e, .int .i64 k]) (.agg #[.int .u16 (v : Int), .int .u16 (x : Int), .int .u16 (l : Int), .int .i64 e, .int .i64 k])).run Tryd.prog w = .ok (.bool false) w := by
  go_simp
theorem eql_self (v x l : Nat) (e k : Int) (v' x' l' : Nat) (e' k' : Int) (t : Bool) (w : World) : (binOp .eql 43 (.agg #[.int .u16 (v : Int), .int .u16 (x : Int), .int .u16 (l : Int), .int .i64 e, .int .i64 k, .int .u16 (v' : Int), .int .u16 (x' : Int), .int .u16 (l' : Int), .int .i64 e', .int .i64 k', .bool t]) (.agg #[.int .u16 (v : Int), .int .u16 (x : Int), .int .u16 (l : Int), .int .i64 e, .int .i64 k, .int .u16 (v' : Int), .int .u16 (x' : Int), .int .u16 (l' : Int), .int .i64 e', .int .i64 k', .bool t])).run Tryd.prog w = .ok (.bool true) w := by
  go_simp
end Go.Proofs.YtfcljdpjjabhjaaDoor.kit
