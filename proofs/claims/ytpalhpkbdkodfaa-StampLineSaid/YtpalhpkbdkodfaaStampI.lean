/- What the functions of the program's own package stamp come to, all in one place. Conditions: int64; at most 2^40 bytes. -/
import Derived.Test.YtpalhpkbdkodfaaStampE
import Derived.Test.YtpalhpkbdkodfaaStampL
import Derived.Test.YtpalhpkbdkodfaaTie
import Derived.Test.YtpalhpkbdkodfaaTry
namespace Go.Proofs.Ytpalhpkbdkodfaa.stamp
open Go.RowKit Go.Proofs.Ytpalhpkbdkodfaa.kit Go.Proofs.Ytpalhpkbdkodfaa.nums Go.Proofs.Ytpalhpkbdkodfaa.st Go.Proofs.Ytpalhpkbdkodfaa.ref6
set_option linter.unusedVariables false

theorem tie_any (n l s a : Int) (hn : I64 n) (hl : I64 l) (hs : I64 s) (ha : I64 a) (w : World) :
    Calls Try.prog 23 #[.int .i64 n, .int .i64 l, .int .i64 s, .int .i64 a] w fun e w' => e = .returned (.tuple #[.int .i64 (tieF n l s a), .int .i64 (tieE n l s a)]) ∧ Below w.heap.size w w' := tie.tie_any n l s a hn hl hs ha w
end Go.Proofs.Ytpalhpkbdkodfaa.stamp
