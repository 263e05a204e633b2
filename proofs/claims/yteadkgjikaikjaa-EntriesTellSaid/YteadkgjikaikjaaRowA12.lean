/- An int that comes in, in words of numbers. No condition. -/
import Derived.Test.YteadkgjikaikjaaKitLg
import Derived.OpenShut
namespace Go.Proofs.Yteadkgjikaikjaa.law12
open Go Go.RowKit Go.Proofs.Yteadkgjikaikjaa.kit Go.Proofs.Yteadkgjikaikjaa.nums Go.Proofs.Yteadkgjikaikjaa.cf Go.Proofs.Yteadkgjikaikjaa.lg
set_option linter.unusedVariables false
theorem i64_in {n : Int} (h : (Lit.int .i64 n).wf = true) : In64 n := by
  unfold In64; simpa [Lit.wf, IntKind.min, IntKind.max, IntKind.signed, IntKind.bits] using h
end Go.Proofs.Yteadkgjikaikjaa.law12
