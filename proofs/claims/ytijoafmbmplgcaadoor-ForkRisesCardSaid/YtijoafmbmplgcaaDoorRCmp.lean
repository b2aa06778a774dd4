/- The contract of package quarryref02's Cmp. -/
import Derived.Test.YtijoafmbmplgcaaDoorRTrim
namespace Go.Proofs.YtijoafmbmplgcaaDoor
open Go.RowKit

end Go.Proofs.YtijoafmbmplgcaaDoor
