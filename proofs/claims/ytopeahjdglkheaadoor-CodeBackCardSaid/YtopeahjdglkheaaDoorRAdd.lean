/- The contracts of package quarryref02's Add and Sub. -/
import Derived.Test.YtopeahjdglkheaaDoorRTrim
import Derived.OwnWalk
import Derived.Outline
namespace Go.Proofs.YtopeahjdglkheaaDoor
open Go.RowKit

theorem info32 : (Tryd.prog.info? 118).map (fun i => (i.zero, i.size, i.bytes)) = some (some (.int .u32 0), 1, 4) := by kernel_rfl
end Go.Proofs.YtopeahjdglkheaaDoor
