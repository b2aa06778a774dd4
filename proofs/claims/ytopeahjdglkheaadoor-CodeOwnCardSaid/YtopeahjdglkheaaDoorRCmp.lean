/- The contract of package quarryref02's Cmp. -/
import Derived.Test.YtopeahjdglkheaaDoorRTrim
namespace Go.Proofs.YtopeahjdglkheaaDoor
open Go.RowKit

end Go.Proofs.YtopeahjdglkheaaDoor
