/- EntriesTurns's walk in the frame's words. No condition. -/
import Derived.Test.YteadkgjikaikjaaTrn12
namespace Go.Proofs.Yteadkgjikaikjaa.law12
open Go Go.RowKit Go.Proofs.Yteadkgjikaikjaa.kit Go.Proofs.Yteadkgjikaikjaa.nums Go.Proofs.Yteadkgjikaikjaa.cf Go.Proofs.Yteadkgjikaikjaa.lg
set_option linter.unusedVariables false
theorem turns_row (L : LgL) (A : Option Addr) (n c : Nat) (x : EnL) (prev tm : Int) (A2 : Option Addr) (n2 c2 : Nat) (es2 : List EnL) (zt : Int) (W : World) (hR : RdE W W.heap.size A n L.es) (hc : n ≤ c) (hm : c ≤ maxLen) (w1 : (Lit.int .i64 prev).wf = true) (w2 : (Lit.int .i64 tm).wf = true) (hE : RdE W W.heap.size A2 n2 es2) (hc2 : n2 ≤ c2) (hm2 : c2 ≤ maxLen) (w3 : (Lit.int .i64 zt).wf = true) : Calls Try.prog 4 #[lgV L (.slice A n c), enV x, .int .i64 prev, .int .i64 tm, .slice A2 n2 c2, .int .i64 zt] W fun e w' => e = .returned (.bool true) ∧ Below W.heap.size W w' :=
  turns_walk L A n c x prev tm A2 n2 c2 es2 zt W hR hc hE hc2
end Go.Proofs.Yteadkgjikaikjaa.law12
