/- The contracts of package quarryref02's Shl and Shr. -/
import Derived.Test.YtakojlgoelbjmaaRAdd
import Derived.Test.YtakojlgoelbjmaaDig
namespace Go.Proofs.Ytakojlgoelbjmaa
open Go.RowKit

end Go.Proofs.Ytakojlgoelbjmaa
