/- The contracts of package quarryref02's Shl and Shr. -/
import Derived.Test.YtchhnalalplggaaRAdd
import Derived.Test.YtchhnalalplggaaDig
namespace Go.Proofs.Ytchhnalalplggaa
open Go.RowKit

end Go.Proofs.Ytchhnalalplggaa
