/- How a slice of bytes that comes in reads, in the words of the kit. No condition. -/
import Derived.Test.YtdpfpcdoocampaaRows
import Derived.Test.YtdpfpcdoocampaaKit
import Derived.Test.YtdpfpcdoocampaaNums
import Derived.ProofKit
import Derived.OpenShut
namespace Go.Proofs.Ytdpfpcdoocampaa.frame
open Go.ChangeShapes Go.WideShapes Go.ChangeAt Go.RowKit Go.Proofs.Ytdpfpcdoocampaa.kit Go.Proofs.Ytdpfpcdoocampaa.nums

end Go.Proofs.Ytdpfpcdoocampaa.frame
