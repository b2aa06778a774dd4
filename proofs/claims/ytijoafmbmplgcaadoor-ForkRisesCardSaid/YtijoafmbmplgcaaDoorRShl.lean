/- The contracts of package quarryref02's Shl and Shr. -/
import Derived.Test.YtijoafmbmplgcaaDoorRAdd
import Derived.Test.YtijoafmbmplgcaaDoorDig
namespace Go.Proofs.YtijoafmbmplgcaaDoor
open Go.RowKit

end Go.Proofs.YtijoafmbmplgcaaDoor
