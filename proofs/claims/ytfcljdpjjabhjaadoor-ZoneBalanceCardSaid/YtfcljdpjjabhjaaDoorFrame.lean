/- How a slice of bytes that comes in reads, in the words of the kit. No condition. -/
import Derived.Test.YtfcljdpjjabhjaaDoorRows
import Derived.Test.YtfcljdpjjabhjaaDoorKit
import Derived.Test.YtfcljdpjjabhjaaDoorNums
import Derived.ProofKit
import Derived.OpenShut
namespace Go.Proofs.YtfcljdpjjabhjaaDoor.frame
open Go.ChangeShapes Go.WideShapes Go.ChangeAt Go.RowKit Go.Proofs.YtfcljdpjjabhjaaDoor.kit Go.Proofs.YtfcljdpjjabhjaaDoor.nums

end Go.Proofs.YtfcljdpjjabhjaaDoor.frame
