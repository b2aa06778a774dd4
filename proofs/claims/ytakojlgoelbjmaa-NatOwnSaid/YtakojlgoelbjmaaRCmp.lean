/- The contract of package quarryref02's Cmp. -/
import Derived.Test.YtakojlgoelbjmaaRTrim
namespace Go.Proofs.Ytakojlgoelbjmaa
open Go.RowKit

end Go.Proofs.Ytakojlgoelbjmaa
