/- The contracts of package quarryref02's Shl and Shr. -/
import Derived.Test.YtopeahjdglkheaaDoorRAdd
import Derived.Test.YtopeahjdglkheaaDoorDig
namespace Go.Proofs.YtopeahjdglkheaaDoor
open Go.RowKit

end Go.Proofs.YtopeahjdglkheaaDoor
