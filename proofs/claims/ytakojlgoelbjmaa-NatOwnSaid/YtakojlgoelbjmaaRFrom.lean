/- The contracts of package quarryref02's Of and From. -/
import Derived.Test.YtakojlgoelbjmaaRAdd
import Derived.Test.YtakojlgoelbjmaaDig
import Derived.BigRegion
import Derived.Test.YtakojlgoelbjmaaRTrim
namespace Go.Proofs.Ytakojlgoelbjmaa
open Go.RowKit

end Go.Proofs.Ytakojlgoelbjmaa
/- The contracts of package quarryref02's Bytes and Fill. -/
namespace Go.Proofs.Ytakojlgoelbjmaa
open Go.RowKit

end Go.Proofs.Ytakojlgoelbjmaa
/- The contract of package quarryref02's Fill. -/
namespace Go.Proofs.Ytakojlgoelbjmaa
open Go.RowKit

end Go.Proofs.Ytakojlgoelbjmaa
