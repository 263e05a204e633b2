/- The byte's row of the program's table of types. No condition. -/
import Derived.Test.YtpalhpkbdkodfaaProg
import Derived.Test.YtpalhpkbdkodfaaKit
namespace Go.Proofs.Ytpalhpkbdkodfaa.bytes
theorem info5 : (Try.prog.info? 5).map (fun i => (i.zero, i.size, i.bytes)) = some (some (.int .u8 0), 1, 1) := by kernel_rfl
end Go.Proofs.Ytpalhpkbdkodfaa.bytes
