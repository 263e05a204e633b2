/- CoreProposes's walk in the frame's words. No condition. -/
import Derived.OpenShut
import Derived.Test.YtegnfkbmlalkeaaGreatSpPro13
set_option linter.unusedVariables false
set_option maxHeartbeats 16000000
set_option maxRecDepth 10000
namespace Go.Proofs.YtegnfkbmlalkeaaGreat.law13
open Go Go.RowKit kit nums cf lg cr
theorem proposes_row (c : CoL) (A : Option Addr) (n p : Nat) (x : EnL) (tz : Int) (sn : ByteArray) (W : World) (hR : RdE W W.heap.size A n c.lg.es) (hC : n ≤ p) (hM : p ≤ maxLen) (hJ : c.lg.j.ok) (hE : ∀ x ∈ c.lg.es, x.j.ok) (hU : c.vs < 65536) (hG : c.he < 65536) (hX : x.j.ok) (w1 : (Lit.int .i64 tz).wf = true) (w2 : sn.size ≤ maxLen) : Calls Tryz.prog 5 #[crV c (.slice A n p), enV x, .int .i64 tz, .string sn] W fun e w' => e = .returned (.bool true) ∧ Below W.heap.size W w' :=
 proposes_walk c A n p x tz sn W hR hC hJ hE ⟨hU, hG⟩ hX
end Go.Proofs.YtegnfkbmlalkeaaGreat.law13
