/- The document's Tick. Conditions: those that the theorem names. -/
import Derived.Deep.RegionHeld3
import Derived.Deep.Cut
import Derived.Lib.Hide
import Derived.Test.YtegnfkbmlalkeaaGreatStJ3
import Derived.Test.YtegnfkbmlalkeaaGreatStJ0
import Derived.Test.YtegnfkbmlalkeaaGreatStRefT13
import Derived.Test.YtegnfkbmlalkeaaGreatStRefU13
import Derived.Test.YtegnfkbmlalkeaaGreatStKitLg
set_option linter.unusedVariables false
set_option maxHeartbeats 16000000
set_option maxRecDepth 10000
namespace Go.Proofs.YtegnfkbmlalkeaaGreat.ref13
open Go Go.RowKit kit nums cf lg cr se
theorem tick_any (c : CoL) (A : Option Addr) (n p : Nat) (w : World) (B : Nat) (hR : RdE w B A n c.lg.es) (hB : B ≤ w.heap.size) (hp : n ≤ p) (hk : GoodK c) : Calls Tryz.prog 18 #[crV c (.slice A n p)] w fun e w' => ∃ A' n' p' v, e = .returned (.tuple #[crV (tickF c).1 (.slice A' n' p'), v]) ∧ RdE w' w'.heap.size A' n' (tickF c).1.lg.es ∧ n' ≤ p' ∧ RdMs w' v (tickF c).2 ∧ Below w.heap.size w w' := by
 by_cases hro : c.ro = 2
 · exact tick_lead c A n p w B hR hB hp hk hro
 · exact tick_else c A n p w B hR hB hp hk hro
end Go.Proofs.YtegnfkbmlalkeaaGreat.ref13
