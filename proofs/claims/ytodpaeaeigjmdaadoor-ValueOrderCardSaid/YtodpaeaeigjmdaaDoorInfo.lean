/- The byte's row of the program's table of types. No condition. -/
import Derived.Test.YtodpaeaeigjmdaaDoorProg
import Derived.Test.YtodpaeaeigjmdaaDoorKit
namespace Go.Proofs.YtodpaeaeigjmdaaDoor.bytes
theorem info5 : (Tryd.prog.info? 5).map (fun i => (i.zero, i.size, i.bytes)) = some (some (.int .u8 0), 1, 1) := by kernel_rfl
end Go.Proofs.YtodpaeaeigjmdaaDoor.bytes
