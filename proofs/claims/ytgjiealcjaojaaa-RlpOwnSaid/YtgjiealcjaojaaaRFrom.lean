/- The contracts of package quarryref02's Of and From. -/
import Derived.Test.YtgjiealcjaojaaaRAdd
import Derived.Test.YtgjiealcjaojaaaDig
import Derived.BigRegion
import Derived.Test.YtgjiealcjaojaaaRTrim
namespace Go.Proofs.Ytgjiealcjaojaaa
open Go.RowKit

end Go.Proofs.Ytgjiealcjaojaaa
/- The contracts of package quarryref02's Bytes and Fill. -/
namespace Go.Proofs.Ytgjiealcjaojaaa
open Go.RowKit

end Go.Proofs.Ytgjiealcjaojaaa
/- The contract of package quarryref02's Fill. -/
namespace Go.Proofs.Ytgjiealcjaojaaa
open Go.RowKit

end Go.Proofs.Ytgjiealcjaojaaa
