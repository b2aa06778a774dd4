/- The contract of package quarryref02's Cmp. -/
import Derived.Test.YtgjiealcjaojaaaRTrim
namespace Go.Proofs.Ytgjiealcjaojaaa
open Go.RowKit

end Go.Proofs.Ytgjiealcjaojaaa
