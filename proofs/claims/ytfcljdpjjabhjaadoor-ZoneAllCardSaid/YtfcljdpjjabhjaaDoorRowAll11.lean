/- ZoneAll answers true, in the words of its frame. Condition: the library's table reads as its text lays it. -/
import Derived.Test.YtfcljdpjjabhjaaDoorAll11
namespace Go.Proofs.YtfcljdpjjabhjaaDoor.law11
open Go Go.RowKit Go.Proofs.YtfcljdpjjabhjaaDoor.kit Go.Proofs.YtfcljdpjjabhjaaDoor.nums Go.Proofs.YtfcljdpjjabhjaaDoor.cf Go.Proofs.YtfcljdpjjabhjaaDoor.zn Go.Proofs.YtfcljdpjjabhjaaDoor.ref9 Go.Proofs.YtfcljdpjjabhjaaDoor.zoni
set_option linter.unusedVariables false

theorem all_row (A : Option Addr) (n c : Nat) (rs : List Int) (a : ZnA) (z : ZnL) (A2 : Option Addr) (m c2 : Nat) (ld : List Int) (w : World)
    (hR : RdV w w.heap.size A n (i64s rs)) (_ : ∀ x ∈ rs, -9223372036854775808 ≤ x ∧ x ≤ 9223372036854775807) (_ : n ≤ c) (_ : c ≤ maxLen) (hZ : RdZ0 w w.heap.size a z) (hL : RdV w w.heap.size A2 m (i64s ld)) (_ : ∀ x ∈ ld, -9223372036854775808 ≤ x ∧ x ≤ 9223372036854775807) (_ : m ≤ c2) (_ : c2 ≤ maxLen) (hT : TabW w) :
    Calls Tryd.prog 3 #[.slice A n c, znV a z, .slice A2 m c2] w fun e w' => e = .returned (.bool true) ∧ Below w.heap.size w w' := all_walk A n c rs a z A2 m c2 ld w hT hR hZ hL
end Go.Proofs.YtfcljdpjjabhjaaDoor.law11
