/- The contract of package quarryref02's Sub. -/
import Derived.Test.YtakojlgoelbjmaaRAdd
namespace Go.Proofs.Ytakojlgoelbjmaa
open Go.RowKit

end Go.Proofs.Ytakojlgoelbjmaa
