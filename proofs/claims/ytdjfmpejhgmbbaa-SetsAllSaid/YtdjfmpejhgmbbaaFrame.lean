/- How a slice of bytes that comes in reads, in the words of the kit. No condition. -/
import Derived.Test.YtdjfmpejhgmbbaaRows
import Derived.Test.YtdjfmpejhgmbbaaKit
import Derived.Test.YtdjfmpejhgmbbaaNums
import Derived.ProofKit
import Derived.OpenShut
namespace Go.Proofs.Ytdjfmpejhgmbbaa.frame
open Go.ChangeShapes Go.WideShapes Go.ChangeAt Go.RowKit Go.Proofs.Ytdjfmpejhgmbbaa.kit Go.Proofs.Ytdjfmpejhgmbbaa.nums

end Go.Proofs.Ytdjfmpejhgmbbaa.frame
