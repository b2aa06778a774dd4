/- The contract of package quarryref02's Cmp. -/
import Derived.Test.YtgmpoefgcimaiaaRTrim
namespace Go.Proofs.Ytgmpoefgcimaiaa
open Go.RowKit

end Go.Proofs.Ytgmpoefgcimaiaa
