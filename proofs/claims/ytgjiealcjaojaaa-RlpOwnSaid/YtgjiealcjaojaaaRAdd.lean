/- The contracts of package quarryref02's Add and Sub. -/
import Derived.Test.YtgjiealcjaojaaaRTrim
import Derived.OwnWalk
import Derived.Outline
namespace Go.Proofs.Ytgjiealcjaojaaa
open Go.RowKit

theorem info32 : (Try.prog.info? 161).map (fun i => (i.zero, i.size, i.bytes)) = some (some (.int .u32 0), 1, 4) := by kernel_rfl
end Go.Proofs.Ytgjiealcjaojaaa
