/- EntriesMerge's walk in the frame's words. No condition. -/
import Derived.Test.YteadkgjikaikjaaMrg12
namespace Go.Proofs.Yteadkgjikaikjaa.law12
open Go Go.RowKit Go.Proofs.Yteadkgjikaikjaa.kit Go.Proofs.Yteadkgjikaikjaa.nums Go.Proofs.Yteadkgjikaikjaa.cf Go.Proofs.Yteadkgjikaikjaa.lg
set_option linter.unusedVariables false
theorem merge_row (A : Option Addr) (n c : Nat) (l : List Int) (A2 : Option Addr) (n2 c2 : Nat) (l2 : List Int) (pv q : Int) (W : World) (hR : Rd W W.heap.size A n l) (hY : Byt l) (hc : n ≤ c) (hm : c ≤ maxLen) (hR2 : Rd W W.heap.size A2 n2 l2) (hY2 : Byt l2) (hc2 : n2 ≤ c2) (hm2 : c2 ≤ maxLen) (w1 : (Lit.int .i64 pv).wf = true) (w2 : (Lit.int .i64 q).wf = true) : Calls Try.prog 5 #[.slice A n c, .slice A2 n2 c2, .int .i64 pv, .int .i64 q] W fun e w' => e = .returned (.bool true) ∧ Below W.heap.size W w' :=
  merge_walk A n c l A2 n2 c2 l2 pv q W hR hY hR2 hY2
end Go.Proofs.Yteadkgjikaikjaa.law12
