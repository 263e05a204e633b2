/- CoreTicks's walk in the frame's words. No condition. -/
import Derived.OpenShut
import Derived.Test.YtegnfkbmlalkeaaGreatStTic13
set_option linter.unusedVariables false
set_option maxHeartbeats 16000000
set_option maxRecDepth 10000
namespace Go.Proofs.YtegnfkbmlalkeaaGreat.law13
open Go Go.RowKit kit nums cf lg cr
theorem in64_of {n : Int} (h : (Lit.int .i64 n).wf = true) : In64 n := by
 unfold In64; simpa [Lit.wf, IntKind.min, IntKind.max, IntKind.signed, IntKind.bits] using h
theorem ticks_row (c : CoL) (A : Option Addr) (n p : Nat) (t : Int) (W : World) (hR : RdE W W.heap.size A n c.lg.es) (hC : n ≤ p) (hM : p ≤ maxLen) (hJ : c.lg.j.ok) (hE : ∀ x ∈ c.lg.es, x.j.ok) (hU : c.vs < 65536) (hG : c.he < 65536) (w1 : (Lit.int .i64 t).wf = true) : Calls Tryz.prog 3 #[crV c (.slice A n p), .int .i64 t] W fun e w' => e = .returned (.bool true) ∧ Below W.heap.size W w' :=
 ticks_walk c A n p t W hR hC hJ hE ⟨hU, hG⟩ (in64_of w1)
end Go.Proofs.YtegnfkbmlalkeaaGreat.law13
