/- EntriesOrder's walk in the frame's words. No condition. -/
import Derived.Test.YteadkgjikaikjaaOrd12
namespace Go.Proofs.Yteadkgjikaikjaa.law12
open Go Go.RowKit Go.Proofs.Yteadkgjikaikjaa.kit Go.Proofs.Yteadkgjikaikjaa.nums Go.Proofs.Yteadkgjikaikjaa.cf Go.Proofs.Yteadkgjikaikjaa.lg
set_option linter.unusedVariables false
theorem order_row (A : Option Addr) (n c : Nat) (l : List Int) (A2 : Option Addr) (n2 c2 : Nat) (l2 : List Int) (A3 : Option Addr) (n3 c3 : Nat) (l3 : List Int) (W : World) (hR : Rd W W.heap.size A n l) (hY : Byt l) (hc : n ≤ c) (hm : c ≤ maxLen) (hR2 : Rd W W.heap.size A2 n2 l2) (hY2 : Byt l2) (hc2 : n2 ≤ c2) (hm2 : c2 ≤ maxLen) (hR3 : Rd W W.heap.size A3 n3 l3) (hY3 : Byt l3) (hc3 : n3 ≤ c3) (hm3 : c3 ≤ maxLen) : Calls Try.prog 7 #[.slice A n c, .slice A2 n2 c2, .slice A3 n3 c3] W fun e w' => e = .returned (.bool true) ∧ Below W.heap.size W w' :=
  order_walk A n c l A2 n2 c2 l2 A3 n3 c3 l3 W hR hY hR2 hY2 hR3 hY3
end Go.Proofs.Yteadkgjikaikjaa.law12
