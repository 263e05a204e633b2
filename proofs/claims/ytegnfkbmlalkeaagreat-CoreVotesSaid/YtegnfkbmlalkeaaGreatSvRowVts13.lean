/- CoreVotes's walk in the frame's words. No condition. -/
import Derived.OpenShut
import Derived.Test.YtegnfkbmlalkeaaGreatSvVts13
namespace Go.Proofs.YtegnfkbmlalkeaaGreat.law13
open Go Go.RowKit Go.Proofs.YtegnfkbmlalkeaaGreat.kit Go.Proofs.YtegnfkbmlalkeaaGreat.nums Go.Proofs.YtegnfkbmlalkeaaGreat.cf Go.Proofs.YtegnfkbmlalkeaaGreat.lg Go.Proofs.YtegnfkbmlalkeaaGreat.cr
set_option linter.unusedVariables false
theorem votes_row (c : CoL) (A : Option Addr) (n p : Nat) (Al : Option Addr) (nl pl : Nat) (l : List (MsL × Value)) (Ab : Option Addr) (nb pb : Nat) (rs : List Bool) (W : World) (hR : RdE W W.heap.size A n c.lg.es) (hC : n ≤ p) (hM : p ≤ maxLen) (hJ : c.lg.j.ok) (hE : ∀ x ∈ c.lg.es, x.j.ok) (hU : c.vs < 65536) (hG : c.he < 65536) (hRl : InM W W.heap.size Al nl l) (hCl : nl ≤ pl) (hMl : pl ≤ maxLen) (hEl : ∀ x ∈ l, x.1.j.ok ∧ ∀ y ∈ x.1.es, y.j.ok) (hRb : RdV W W.heap.size Ab nb (rs.map Value.bool)) (hYb : True) (hCb : nb ≤ pb) (hMb : pb ≤ maxLen) : Calls Tryz.prog 7 #[crV c (.slice A n p), .slice Al nl pl, .slice Ab nb pb] W fun e w' => e = .returned (.bool true) ∧ Below W.heap.size W w' :=
 votes_walk c A n p Al nl pl l Ab nb pb rs W hR hC hJ hE ⟨hU, hG⟩ hRl hEl hRb
end Go.Proofs.YtegnfkbmlalkeaaGreat.law13
