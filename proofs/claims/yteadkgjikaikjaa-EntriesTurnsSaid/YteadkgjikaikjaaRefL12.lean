/- The document's entries: Merge. Conditions: the log's numbers stay far from the ends of an int. -/
import Derived.Test.YteadkgjikaikjaaRefLa12
import Derived.Test.YteadkgjikaikjaaRefLb12
import Derived.Test.YteadkgjikaikjaaKitLg
import Derived.Test.YteadkgjikaikjaaTk
import Derived.Deep.RegionHeld3
import Derived.Deep.Cut
import Derived.Lib.Hide
namespace Go.Proofs.Yteadkgjikaikjaa.ref12
open Go Go.RowKit Go.Proofs.Yteadkgjikaikjaa.kit Go.Proofs.Yteadkgjikaikjaa.nums Go.Proofs.Yteadkgjikaikjaa.cf Go.Proofs.Yteadkgjikaikjaa.lg
set_option linter.unusedVariables false
theorem rmerge_any (L : LgL) (A : Option Addr) (n c : Nat) (prev term : Int) (A2 : Option Addr) (n2 c2 : Nat) (es2 : List EnL) (w : World) (B : Nat) (hR : RdE w B A n L.es) (hB : B ≤ w.heap.size) (hc : n ≤ c) (hf : Fit L) (B2 : Nat) (hE : RdE w B2 A2 n2 es2) (hB2 : B2 ≤ w.heap.size) (hc2 : n2 ≤ c2) (hn2 : n2 ≤ 1000000) :
    Calls Try.prog 29 #[lgV L (.slice A n c), .int .i64 prev, .int .i64 term, .slice A2 n2 c2] w fun e w' => ∃ A' n' c', e = .returned (.tuple #[lgV (mergeF L prev term es2).1 (.slice A' n' c'), .int .i64 (mergeF L prev term es2).2.1, .bool (mergeF L prev term es2).2.2]) ∧ n' = (mergeF L prev term es2).1.es.length ∧ RdE w' w'.heap.size A' n' (mergeF L prev term es2).1.es ∧ n' ≤ c' ∧ Below w.heap.size w w' := by
  by_cases c3 : L.b ≤ prev
  · exact rmerge_hi L A n c prev term A2 n2 c2 es2 w B hR hB hc hf B2 hE hB2 hc2 hn2 c3
  · exact rmerge_lo L A n c prev term A2 n2 c2 es2 w B hR hB hc hf B2 hE hB2 hc2 hn2 c3
end Go.Proofs.Yteadkgjikaikjaa.ref12
