/- CoreQuiet's walk in the frame's words. No condition. -/
import Derived.OpenShut
import Derived.Test.YtegnfkbmlalkeaaSqQui13
namespace Go.Proofs.Ytegnfkbmlalkeaa.law13
open Go Go.RowKit Go.Proofs.Ytegnfkbmlalkeaa.kit Go.Proofs.Ytegnfkbmlalkeaa.nums Go.Proofs.Ytegnfkbmlalkeaa.cf Go.Proofs.Ytegnfkbmlalkeaa.lg Go.Proofs.Ytegnfkbmlalkeaa.cr
set_option linter.unusedVariables false
theorem in64_of {n : Int} (h : (Lit.int .i64 n).wf = true) : In64 n := by
 unfold In64; simpa [Lit.wf, IntKind.min, IntKind.max, IntKind.signed, IntKind.bits] using h
theorem quiet_row (x y z e : Nat) (n t : Int) (W : World) (hx : x < 256) (hy : y < 256) (hz : z < 256) (he : e < 256) (w1 : (Lit.int .i64 n).wf = true) (w2 : (Lit.int .i64 t).wf = true) : Calls Try.prog 3 #[.agg #[.int .u8 (x : Int), .int .u8 (y : Int), .int .u8 (z : Int), .int .u8 (e : Int)], .int .i64 n, .int .i64 t] W fun e_ w' => e_ = .returned (.bool true) ∧ Below W.heap.size W w' :=
 quiet_walk x y z e n t W hx hy hz he (in64_of w1) (in64_of w2)
end Go.Proofs.Ytegnfkbmlalkeaa.law13
