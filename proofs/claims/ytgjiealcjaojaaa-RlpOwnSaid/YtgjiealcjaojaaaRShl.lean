/- The contracts of package quarryref02's Shl and Shr. -/
import Derived.Test.YtgjiealcjaojaaaRAdd
import Derived.Test.YtgjiealcjaojaaaDig
namespace Go.Proofs.Ytgjiealcjaojaaa
open Go.RowKit

end Go.Proofs.Ytgjiealcjaojaaa
