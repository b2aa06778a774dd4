/- The contract of package quarryref02's Cmp. -/
import Derived.Test.YtpeebcgeefjpbaaRTrim
namespace Go.Proofs.Ytpeebcgeefjpbaa
open Go.RowKit

end Go.Proofs.Ytpeebcgeefjpbaa
