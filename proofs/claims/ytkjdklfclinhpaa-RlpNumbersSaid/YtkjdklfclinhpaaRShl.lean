/- The contracts of package quarryref02's Shl and Shr. -/
import Derived.Test.YtkjdklfclinhpaaRAdd
import Derived.Test.YtkjdklfclinhpaaDig
namespace Go.Proofs.Ytkjdklfclinhpaa
open Go.RowKit

end Go.Proofs.Ytkjdklfclinhpaa
