/- The contract of package quarryref02's Cmp. -/
import Derived.Test.YtbpdmodlnkfdiaaRTrim
namespace Go.Proofs.Ytbpdmodlnkfdiaa
open Go.RowKit

end Go.Proofs.Ytbpdmodlnkfdiaa
