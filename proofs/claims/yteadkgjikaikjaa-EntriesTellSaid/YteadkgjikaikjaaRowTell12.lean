/- EntriesTell's walk in the frame's words. No condition. -/
import Derived.Test.YteadkgjikaikjaaTell12
import Derived.Test.YteadkgjikaikjaaRowA12
namespace Go.Proofs.Yteadkgjikaikjaa.law12
open Go Go.RowKit Go.Proofs.Yteadkgjikaikjaa.kit Go.Proofs.Yteadkgjikaikjaa.nums Go.Proofs.Yteadkgjikaikjaa.cf Go.Proofs.Yteadkgjikaikjaa.lg
set_option linter.unusedVariables false
theorem tell_row (L : LgL) (A : Option Addr) (n c : Nat) (a q tm : Int) (W : World) (hR : RdE W W.heap.size A n L.es) (hc : n ≤ c) (hm : c ≤ maxLen) (w1 : (Lit.int .i64 a).wf = true) (w2 : (Lit.int .i64 q).wf = true) (w3 : (Lit.int .i64 tm).wf = true) : Calls Try.prog 3 #[lgV L (.slice A n c), .int .i64 a, .int .i64 q, .int .i64 tm] W fun e w' => e = .returned (.bool true) ∧ Below W.heap.size W w' :=
  tell_walk L A n c a q tm W hR hc (i64_in w1) (i64_in w2)
end Go.Proofs.Yteadkgjikaikjaa.law12
