/- The contracts of package quarryref02's Of and From. -/
import Derived.Test.YtijoafmbmplgcaaDoorRAdd
import Derived.Test.YtijoafmbmplgcaaDoorDig
import Derived.BigRegion
import Derived.Test.YtijoafmbmplgcaaDoorRTrim
namespace Go.Proofs.YtijoafmbmplgcaaDoor
open Go.RowKit

end Go.Proofs.YtijoafmbmplgcaaDoor
/- The contracts of package quarryref02's Bytes and Fill. -/
namespace Go.Proofs.YtijoafmbmplgcaaDoor
open Go.RowKit

end Go.Proofs.YtijoafmbmplgcaaDoor
/- The contract of package quarryref02's Fill. -/
namespace Go.Proofs.YtijoafmbmplgcaaDoor
open Go.RowKit

end Go.Proofs.YtijoafmbmplgcaaDoor
