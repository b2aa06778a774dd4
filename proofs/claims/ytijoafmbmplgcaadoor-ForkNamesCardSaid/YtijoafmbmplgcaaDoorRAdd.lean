/- The contracts of package quarryref02's Add and Sub. -/
import Derived.Test.YtijoafmbmplgcaaDoorRTrim
import Derived.OwnWalk
import Derived.Outline
namespace Go.Proofs.YtijoafmbmplgcaaDoor
open Go.RowKit

theorem info32 : (Tryd.prog.info? 51).map (fun i => (i.zero, i.size, i.bytes)) = some (some (.int .u32 0), 1, 4) := by kernel_rfl
end Go.Proofs.YtijoafmbmplgcaaDoor
