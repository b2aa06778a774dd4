/- The contracts of package quarryref02's Of and From. -/
import Derived.Test.YtopeahjdglkheaaDoorRAdd
import Derived.Test.YtopeahjdglkheaaDoorDig
import Derived.BigRegion
import Derived.Test.YtopeahjdglkheaaDoorRTrim
namespace Go.Proofs.YtopeahjdglkheaaDoor
open Go.RowKit

end Go.Proofs.YtopeahjdglkheaaDoor
/- The contracts of package quarryref02's Bytes and Fill. -/
namespace Go.Proofs.YtopeahjdglkheaaDoor
open Go.RowKit

end Go.Proofs.YtopeahjdglkheaaDoor
/- The contract of package quarryref02's Fill. -/
namespace Go.Proofs.YtopeahjdglkheaaDoor
open Go.RowKit

end Go.Proofs.YtopeahjdglkheaaDoor
